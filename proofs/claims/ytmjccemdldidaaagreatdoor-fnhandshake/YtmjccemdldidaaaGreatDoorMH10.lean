import Derived.Test.YtmjccemdldidaaaGreatDoorMH09
namespace Go.Proofs.YtmjccemdldidaaaGreatDoor
open Go.RowKit
open Go.Proofs.Tryz
open Go renaming wpList_load_row → wpLr, wpQuiet_nil → wqN
open Go.World renaming size_alloc → wU
open List renaming length_append → lQ, length_set → lJ, mem_cons_of_mem → mC, mem_cons_self → mQ
open Nat renaming le_refl → nQ
set_option linter.unusedVariables false
set_option maxHeartbeats 16000000
set_option maxRecDepth 100000
theorem akW:∀x:Fin 256,bits .and .u8 (x.val:Int) 1=(x.val:Int)%2:=of_decide_eq_true (by kernel_rfl)
theorem af5 (x:Int) (h:0≤x∧x≤255):bits .and .u8 x 1=x%2:=by
 have h1:=akW ⟨x.toNat,by omega⟩
 have h2:((x.toNat:Nat):Int)=x:=by omega
 simp only[h2]at h1
 exact h1
theorem XC {l:LI} (h:l.length=5):∃a b c d e,l=[a,b,c,d,e]:=by
 match l,h with
 | [a,b,c,d,e],_=>exact⟨a,b,c,d,e,rfl⟩
theorem abW:prog.built 189 [(0,.agg (Iv .u64 [1,0,0,0,0]))]=some (Iv .u64 ([1,0,0,0,0]++[0,0,0,0,0])):=by kernel_rfl
theorem aeD (x z:LI) (hx:x.length=5) (hz:z.length=5):prog.built 189 [(0,.agg (Iv .u64 x)),(1,.agg (Iv .u64 z))]=some (Iv .u64 (x++z)):=by
 obtain⟨a,b,c,d,e,rfl⟩:=XC hx
 obtain⟨f,g,h,i,j,rfl⟩:=XC hz
 kernel_rfl
theorem U4 (k u:LI) (hk:k.length=32) (hkb:aC k) (hu:kL u) (w:World):
 Calls prog 97 #[.agg (Iv .u8 k),.agg (Iv .u64 u)] w fun e w'=>e=.returned (.agg (Iv .u64 ((qZ k u 255).x1++(qZ k u 255).z1)))∧Below w.heap.size w w':=by
 have hzr:=WE
 have hb1:Hid _:=TY 1
 have hb2:Hid _:=abW
 have lu:Hid (u.length=5):=hu.length
 have hb3:Hid _:=aeD u [1,0,0,0,0] lu.out rfl
 have lk:Hid (k.length=32):=hk
 have HL:Hid (∀m,PH (qZ k u m)):=fun m=>ae0 k u hu m
 have HU:Hid (kL u):=hu
 have l1:Hid (([1,0,0,0,0]++[0,0,0,0,0]:LI).length=10):=rfl
 have l2:Hid ((u++[1,0,0,0,0]:LI).length=10):=by show _=_;rw[lQ,lu.out];rfl
 have HBB:Hid (aC k):=hkb
 clear hu hk hkb
 have F0:Rn w [rR (w.heap.size+1+1) (aA 10),rE (w.heap.size+1) u,(w.heap.size,Iv .u8 k,25)] (((w.alloc (.cells (Iv .u8 k) 25)).alloc (.cells (Iv .u64 u) 187)).alloc (.cells (Iv .u64 (aA 10)) 189)):=((((Rn.start w).alloc' w.heap.size (by first|rfl|simp only[wU]) _ _).alloc' (w.heap.size+1) (by first|rfl|simp only[wU]) _ _).alloc' (w.heap.size+1+1) (by first|rfl|simp only[wU]) _ _)
 obtain⟨W,hW⟩:∃W,(((w.alloc (.cells (Iv .u8 k) 25)).alloc (.cells (Iv .u64 u) 187)).alloc (.cells (Iv .u64 (aA 10)) 189))=W:=⟨_,rfl⟩
 rw[hW]at F0
 have F:Hid _:=F0
 have HW:Hid _:=hW
 clear hW F0
 go_enter func97,ntmps97
 go_wp2_with fail
 rw[HW.out]
 clear HW
 have FD:Hid _:=F.out.drew
 clear F
 refine wRt 8 (fun w'=>∃x:Wp (fun v=>Rn w [rR (w.heap.size+1+1) (aA 10),rE (w.heap.size+1) u,(w.heap.size,Iv .u8 k,25)] v),w'=x.w) (.held [0,1,2,3,4] (.fork 5 (.tail 6 (.tail 7 (.last 8 .done))) 6 (.tail 5 (.tail 7 (.last 8 .done))))) jE (by kernel_rfl) ⟨⟨_,FD.out⟩,rfl⟩ ?_
 obtain⟨V,eV⟩:∃V,V=W.drew:=⟨_,rfl⟩
 rw[←eV]at FD⊢
 clear eV
 refine wTh ?_
 simp only[oS]
 refine bF rfl 187 _ rfl (Iv .u64 [1,0,0,0,0]) _ (by kernel_rfl) hb1.out ?_
 simp only[pS]
 refine bF rfl 189 _ rfl (Iv .u64 ([1,0,0,0,0]++[0,0,0,0,0])) _ (by kernel_rfl) hb2.out ?_
 simp only[pS]
 refine wqLr rfl 187 _ rfl (w.heap.size+1) rfl _ (Iv .u64 u) _ _ (fun w' hw'=>by obtain⟨x,rfl⟩:=hw';exact x.p.at (mC _ mQ)) underlying187 rfl (bE lu.out) ?_
 simp only[pS]
 refine bF rfl 187 _ rfl (Iv .u64 [1,0,0,0,0]) _ (by kernel_rfl) hb1.out ?_
 simp only[pS]
 refine bF rfl 189 _ rfl (Iv .u64 (u++[1,0,0,0,0])) _ (by kernel_rfl) hb3.out ?_
 simp only[pS]
 refine wqN ?_
 apply pQ (.tail 7 (.last 8 .done)) (fun c0 c1 v=>Rn w [rR c1 (aA 10),rR c0 (aA 10),rR (w.heap.size+1+1) (aA 10),rE (w.heap.size+1) u,(w.heap.size,Iv .u8 k,25)] v)
 intro h011
 apply cT (.tail 5 (.tail 7 (.last 8 .done))) (fun c1 v=>Rn w [rR c1 (aA 10),rR (w.heap.size+1+1) (aA 10),rE (w.heap.size+1) u,(w.heap.size,Iv .u8 k,25)] v)
 intro h001
 apply cT (.tail 6 (.tail 7 (.last 8 .done))) (fun c0 v=>Rn w [rR c0 (aA 10),rR (w.heap.size+1+1) (aA 10),rE (w.heap.size+1) u,(w.heap.size,Iv .u8 k,25)] v)
 intro h010
 have H:Hid _:=FD.out
 ·refine wTf ?_ ?_
  ·simp only[oS]
   go_wp2_with fail
   have H2:=H.out.alloc (Iv .u64 (aA 10)) 189
   refine⟨⟨⟨_,H2.tail⟩,rfl⟩,?_⟩
   obtain⟨c0,ec⟩:∃c,c=V.heap.size:=⟨_,rfl⟩
   rw[←ec]at H2⊢
   have H3:=H2
   exact h010.out c0 _ H3
  ·simp only[oS]
   go_wp2_with fail
   have H2:=H.out.alloc (Iv .u64 (aA 10)) 189
   refine⟨⟨⟨_,H2.tail⟩,rfl⟩,?_⟩
   obtain⟨c1,ec⟩:∃c,c=V.heap.size:=⟨_,rfl⟩
   rw[←ec]at H2⊢
   have H3:=H2
   exact h001.out c1 _ H3
 ·intro c0 v H0
  have H:Hid _:=H0
  clear H0
  refine wTt ?_
  simp only[oS]
  go_wp2_with fail
  have H2:=H.out.alloc (Iv .u64 (aA 10)) 189
  refine⟨⟨⟨_,H2.tail.tail⟩,rfl⟩,?_⟩
  obtain⟨c1,ec⟩:∃c,c=v.heap.size:=⟨_,rfl⟩
  rw[←ec]at H2⊢
  have H3:=H2
  exact h011.out c0 c1 _ H3
 ·intro c1 v H0
  have H:Hid _:=H0
  clear H0
  refine wTt ?_
  simp only[oS]
  go_wp2_with fail
  have H2:=H.out.alloc (Iv .u64 (aA 10)) 189
  refine⟨⟨⟨_,H2.tail.tail⟩,rfl⟩,?_⟩
  obtain⟨c0,ec⟩:∃c,c=v.heap.size:=⟨_,rfl⟩
  rw[←ec]at H2⊢
  have H3:=H2.two
  exact h011.out c0 c1 _ H3
 intro b1 b2 v0 H0
 have H:Hid _:=H0
 clear H0
 try clear FD
 have F:Hid _:=H.out
 clear H
 refine wTt ?_
 simp only[oS]
 have KA:Hid _:=F.out.at (mC _ mQ)
 go_wp2_with(refine wpPr rfl 189 _ _ rfl b1 (Iv .u64 ([1,0,0,0,0]++[0,0,0,0,0])) rfl rfl _ _ KA.out (dA l1.out) (DW l1.out) (aG _ _) (fun v2 hP=>sH ?_))
 refine aH ?_
 have F1:Hid _:=F.out.put1 hP
 clear hP KA F
 have F:Hid _:=F1.out
 clear F1
 go_wp2_with fail
 refine⟨⟨⟨_,F.out.tail.tail⟩,rfl⟩,?_⟩
 refine wTl ?_
 simp only[oS]
 have KA:Hid _:=F.out.at mQ
 go_wp2_with(refine wpPr rfl 189 _ _ rfl b2 (Iv .u64 (u++[1,0,0,0,0])) rfl rfl _ _ KA.out (dA l2.out) (DW l2.out) (aG _ _) (fun v3 hP=>sH ?_))
 refine aH ?_
 have F1:Hid _:=F.out.put0 hP
 clear hP KA F
 have F:Hid _:=F1.out
 clear F1
 refine aQ ?_
 have F5:Hid _:=F.out
 clear F hb1 hb2 hb3 l1 l2
 go_wp2_with fail
 go_loopw [7] (fun i wr=>∃(j:Int) (m:Nat),j+m=254∧m≤255∧i=.int .i64 j∧Rn w [(b2,Iv .u64 ((qZ k u m).x2++(qZ k u m).z2),189),(b1,Iv .u64 ((qZ k u m).x1++(qZ k u m).z1),189),((w.heap.size+1+1),Iv .u64 (aA 10),189),((w.heap.size+1),Iv .u64 u,187),(w.heap.size,Iv .u8 k,25)] wr) (fun i _=>(intOf i+1).toNat)
 case atStart=>exact⟨254,0,by decide,by decide,rfl,F5.out⟩
 case round=>
  obtain⟨j,m,hjm,hm,rfl,hF⟩:=hrel
  by_cases hj:0≤j
  ·obtain⟨n,rfl⟩:∃n:Nat,j=n:=⟨j.toNat,by omega⟩
   have hn:(n:Int)≤254:=by omega
   have hm9:254 - m=n:=by omega
   have QL:Hid (PH (qZ k u m)):=HL.out m
   have EL1:Hid (qZ k u (m+1)=_):=rfl
   obtain⟨q,eq⟩:∃q,qZ k u m=q:=⟨_,rfl⟩
   have ELS:Hid (qZ k u (m+1)=if k.getD (n / 8) 0 / 2^(n%8)%2=1 then JQ (pI u (JQ q))else pI u q):=by show _=_;rw[qZ,hm9,eq]
   clear EL1
   rw[eq]at hF QL
   clear eq
   obtain⟨x1,z1,x2,z2⟩:=q
   have lx1:Hid (x1.length=5):=QL.out.x1.length
   have lz1:Hid (z1.length=5):=QL.out.z1.length
   have lx2:Hid (x2.length=5):=QL.out.x2.length
   have lz2:Hid (z2.length=5):=QL.out.z2.length
   have l1:Hid ((x1++z1).length=10):=by show _=_;rw[lQ,lx1.out,lz1.out]
   have l2:Hid ((x2++z2).length=10):=by show _=_;rw[lQ,lx2.out,lz2.out]
   have F:Hid _:=hF
   clear hF F5
   have hc:=aE.cell (show aE _ w.heap.size .u8 k 25 from F.out.at (mC _ (mC _ (mC _ (mC _ mQ))))) (n / 8) (by rw[lk.out];omega)
   have hcb:=HBB.out (n / 8)
   have hq:((n / 8:Nat):Int)=(n:Int) / 8:=by omega
   have hr:((n%8:Nat):Int)=(n:Int)%8:=by omega
   obtain⟨z,ez⟩:∃z,k.getD (n / 8) 0=z:=⟨_,rfl⟩
   rw[ez]at hc hcb ELS
   clear ez
   have HP:Hid _:=ac6 z (n%8) hcb
   by_cases hbit:z / 2^(n%8)%2=1
   ·have hbe:(bits .and .u8 (z / 2^(n%8)) 1==1)=true:=by rw[af5 _ HP.out,hbit];rfl
    rw[if_pos hbit]at ELS
    clear hbit
    have G0:Hid _:=F.out.at mQ
    have G1:Hid _:=F.out.at (mC _ mQ)
    have hs9:Hid ((Iv .u64 (x1++z1)).size=(Iv .u64 (x2++z2)).size):=by show _=_;rw[aD,aD,l1.out,l2.out]
    go_wp2_with(first
     | refine wpLr rfl 189 _ rfl b2 rfl _ (Iv .u64 (x2++z2)) _ _ G0.out underlying189 rfl (dA l2.out) ?_
     | refine wpLr rfl 189 _ rfl b1 rfl _ (Iv .u64 (x1++z1)) _ _ G1.out underlying189 rfl (dA l1.out) ?_
     | refine wpPr rfl 189 _ _ rfl b1 (Iv .u64 (x2++z2)) rfl rfl _ _ G1.out (dA l2.out) hs9.out (aG _ _) (fun v5 hP=>sH ?_))
    refine aH ?_
    have F1:Hid _:=F.out.put1 hP
    clear hP G0 G1 F
    have F:Hid _:=F1.out
    clear F1
    have G0:Hid _:=F.out.at mQ
    go_wp2_with(refine wpPr rfl 189 _ _ rfl b2 (Iv .u64 (x1++z1)) rfl rfl _ _ G0.out (dA l1.out) hs9.out.symm (aG _ _) (fun v6 hP=>sH ?_))
    refine aH ?_
    have F1:Hid _:=F.out.put0 hP
    clear hP G0 F hs9
    have F:Hid _:=F1.out
    clear F1
    have CS:Hid (∀W,_):=fun W=>vX u x2 z2 x1 z1 HU.out QL.out.x2 QL.out.z2 QL.out.x1 QL.out.z1 W
    have HS:Hid (PH (pI u ⟨x2,z2,x1,z1⟩)):=PH.step HU.out ⟨QL.out.x2,QL.out.z2,QL.out.x1,QL.out.z1⟩
    obtain⟨s,es⟩:∃s,pI u ⟨x2,z2,x1,z1⟩=s:=⟨_,rfl⟩
    rw[es]at CS HS
    have ES:Hid _:=es
    clear es
    obtain⟨y1,t1,y2,t2⟩:=s
    have m1:Hid ((y1++t1).length=10):=by show _=_;rw[lQ,HS.out.x1.length,HS.out.z1.length]
    have m2:Hid ((y2++t2).length=10):=by show _=_;rw[lQ,HS.out.x2.length,HS.out.z2.length]
    have G0:Hid _:=F.out.at (mC _ mQ)
    have G1:Hid _:=F.out.at mQ
    have G2:Hid _:=F.out.at (mC _ (mC _ (mC _ mQ)))
    go_wp2_with(with_reducible refine aJ ?_;first
     | refine wpLr rfl 189 _ rfl b1 rfl _ (Iv .u64 (x2++z2)) _ _ G0.out underlying189 rfl (dA l2.out) ?_
     | refine wpLr rfl 189 _ rfl b2 rfl _ (Iv .u64 (x1++z1)) _ _ G1.out underlying189 rfl (dA l1.out) ?_
     | refine wpLr rfl 187 _ rfl (w.heap.size+1) rfl _ (Iv .u64 u) _ _ G2.out underlying187 rfl (bE lu.out) ?_)
    clear G0 G1 G2
    refine(CS.out _).mono ?_
    rintro e9 v7 ⟨rfl,hb⟩
    have F1:Hid _:=F.out.later hb (nQ _)
    clear hb F CS
    have F:Hid _:=F1.out
    clear F1
    have G0:Hid _:=F.out.at (mC _ mQ)
    have hs9:Hid ((Iv .u64 (x2++z2)).size=(Iv .u64 (y1++t1)).size):=by show _=_;rw[aD,aD,l2.out,m1.out]
    go_wp2_with(refine wpPr rfl 189 _ _ rfl b1 (Iv .u64 (y1++t1)) rfl rfl _ _ G0.out (dA m1.out) hs9.out (aG _ _) (fun v8 hP=>sH ?_))
    refine aH ?_
    have F1:Hid _:=F.out.put1 hP
    clear hP G0 F hs9
    have F:Hid _:=F1.out
    clear F1
    have G0:Hid _:=F.out.at mQ
    have hs9:Hid ((Iv .u64 (x1++z1)).size=(Iv .u64 (y2++t2)).size):=by show _=_;rw[aD,aD,l1.out,m2.out]
    go_wp2_with(refine wpPr rfl 189 _ _ rfl b2 (Iv .u64 (y2++t2)) rfl rfl _ _ G0.out (dA m2.out) hs9.out (aG _ _) (fun v9 hP=>sH ?_))
    refine aH ?_
    have F1:Hid _:=F.out.put0 hP
    clear hP G0 F hs9
    have F:Hid _:=F1.out
    clear F1
    have G0:Hid _:=F.out.at mQ
    have G1:Hid _:=F.out.at (mC _ mQ)
    have hs9:Hid ((Iv .u64 (y1++t1)).size=(Iv .u64 (y2++t2)).size):=by show _=_;rw[aD,aD,m1.out,m2.out]
    go_wp2_with(first
     | refine wpLr rfl 189 _ rfl b2 rfl _ (Iv .u64 (y2++t2)) _ _ G0.out underlying189 rfl (dA m2.out) ?_
     | refine wpLr rfl 189 _ rfl b1 rfl _ (Iv .u64 (y1++t1)) _ _ G1.out underlying189 rfl (dA m1.out) ?_
     | refine wpPr rfl 189 _ _ rfl b1 (Iv .u64 (y2++t2)) rfl rfl _ _ G1.out (dA m2.out) hs9.out (aG _ _) (fun v10 hP=>sH ?_))
    refine aH ?_
    have F1:Hid _:=F.out.put1 hP
    clear hP G0 G1 F
    have F:Hid _:=F1.out
    clear F1
    have G0:Hid _:=F.out.at mQ
    go_wp2_with(refine wpPr rfl 189 _ _ rfl b2 (Iv .u64 (y1++t1)) rfl rfl _ _ G0.out (dA m1.out) hs9.out.symm (aG _ _) (fun v11 hP=>sH ?_))
    refine aH ?_
    have F1:Hid _:=F.out.put0 hP
    clear hP G0 F hs9
    have F:Hid _:=F1.out
    clear F1
    go_wp2
    go_roundw
    case rel=>exact⟨(n:Int) - 1,m+1,by omega,by omega,by go_num,by rw[ELS.out];unfold JQ;rw[ES.out];exact F.out⟩
    case measure=>simp[intOf]
   ·have hbe:(bits .and .u8 (z / 2^(n%8)) 1==1)=false:=by
     rw[af5 _ HP.out]
     have h9:z / 2^(n%8)%2=0:=by omega
     rw[h9]
     rfl
    rw[if_neg hbit]at ELS
    clear hbit
    have CS:Hid (∀W,_):=fun W=>vX u x1 z1 x2 z2 HU.out QL.out.x1 QL.out.z1 QL.out.x2 QL.out.z2 W
    have HS:Hid _:=PH.step HU.out ⟨QL.out.x1,QL.out.z1,QL.out.x2,QL.out.z2⟩
    obtain⟨s,es⟩:∃s,pI u ⟨x1,z1,x2,z2⟩=s:=⟨_,rfl⟩
    rw[es]at CS HS
    have ES:Hid _:=es
    clear es
    obtain⟨y1,t1,y2,t2⟩:=s
    have m1:Hid ((y1++t1).length=10):=by show _=_;rw[lQ,HS.out.x1.length,HS.out.z1.length]
    have m2:Hid ((y2++t2).length=10):=by show _=_;rw[lQ,HS.out.x2.length,HS.out.z2.length]
    have G0:Hid _:=F.out.at (mC _ mQ)
    have G1:Hid _:=F.out.at mQ
    have G2:Hid _:=F.out.at (mC _ (mC _ (mC _ mQ)))
    go_wp2_with(with_reducible refine aJ ?_;first
     | refine wpLr rfl 189 _ rfl b1 rfl _ (Iv .u64 (x1++z1)) _ _ G0.out underlying189 rfl (dA l1.out) ?_
     | refine wpLr rfl 189 _ rfl b2 rfl _ (Iv .u64 (x2++z2)) _ _ G1.out underlying189 rfl (dA l2.out) ?_
     | refine wpLr rfl 187 _ rfl (w.heap.size+1) rfl _ (Iv .u64 u) _ _ G2.out underlying187 rfl (bE lu.out) ?_)
    clear G0 G1 G2
    refine(CS.out _).mono ?_
    rintro e9 v12 ⟨rfl,hb⟩
    have F1:Hid _:=F.out.later hb (nQ _)
    clear hb F CS
    have F:Hid _:=F1.out
    clear F1
    have G0:Hid _:=F.out.at (mC _ mQ)
    have hs9:Hid ((Iv .u64 (x1++z1)).size=(Iv .u64 (y1++t1)).size):=by show _=_;rw[aD,aD,l1.out,m1.out]
    go_wp2_with(refine wpPr rfl 189 _ _ rfl b1 (Iv .u64 (y1++t1)) rfl rfl _ _ G0.out (dA m1.out) hs9.out (aG _ _) (fun v13 hP=>sH ?_))
    refine aH ?_
    have F1:Hid _:=F.out.put1 hP
    clear hP G0 F hs9
    have F:Hid _:=F1.out
    clear F1
    have G0:Hid _:=F.out.at mQ
    have hs9:Hid ((Iv .u64 (x2++z2)).size=(Iv .u64 (y2++t2)).size):=by show _=_;rw[aD,aD,l2.out,m2.out]
    go_wp2_with(refine wpPr rfl 189 _ _ rfl b2 (Iv .u64 (y2++t2)) rfl rfl _ _ G0.out (dA m2.out) hs9.out (aG _ _) (fun v14 hP=>sH ?_))
    refine aH ?_
    have F1:Hid _:=F.out.put0 hP
    clear hP G0 F hs9
    have F:Hid _:=F1.out
    clear F1
    go_wp2
    go_roundw
    case rel=>exact⟨(n:Int) - 1,m+1,by omega,by omega,by go_num,by rw[ELS.out,ES.out];exact F.out⟩
    case measure=>simp[intOf]
  ·obtain rfl:j= -1:=by omega
   obtain rfl:m=255:=by omega
   obtain⟨q,eq⟩:∃q,qZ k u 255=q:=⟨_,rfl⟩
   have QL:Hid (PH q):=by show PH q;rw[←eq];exact HL.out 255
   rw[eq]at hF
   have EQ:Hid _:=eq
   clear eq F5 HL
   have F:Hid _:=hF
   clear hF
   obtain⟨x1,z1,x2,z2⟩:=q
   have l1:Hid ((x1++z1).length=10):=by show _=_;rw[lQ,QL.out.x1.length,QL.out.z1.length]
   have G0:Hid _:=F.out.at (mC _ mQ)
   have G1:Hid _:=F.out.at (mC _ (mC _ mQ))
   go_wp2_with(first
    | refine wpLr rfl 189 _ rfl b1 rfl _ (Iv .u64 (x1++z1)) _ _ G0.out underlying189 rfl (dA l1.out) ?_
    | refine wpPr rfl 189 _ _ rfl (w.heap.size+1+1) (Iv .u64 (x1++z1)) rfl rfl _ _ G1.out (dA l1.out) (DW l1.out) (aG _ _) (fun Z9 hP=>sH ?_))
   refine aH ?_
   have F1:Rn w [rR b2 (x2++z2),rR b1 (x1++z1),rR (w.heap.size+1+1) (x1++z1),rE (w.heap.size+1) u,(w.heap.size,Iv .u8 k,25)] Z9:=Rn.putK (R1:=[rR b2 (x2++z2),rR b1 (x1++z1)]) (R2:=[rE (w.heap.size+1) u,(w.heap.size,Iv .u8 k,25)]) F.out hP
   have B9:=F1.bel
   have M1:=F1.at (mC _ (mC _ mQ))
   clear F1 hP F G0 G1
   have HV:Hid ((qZ k u 255).x1++(qZ k u 255).z1=x1++z1):=by show _=_;rw[EQ.out]
   obtain⟨r,er⟩:∃x,x1++z1=x:=⟨_,rfl⟩
   rw[er]at HV M1 l1
   clear er EQ QL
   go_wp2
   exact bodyPost_ret (v:=.agg (Iv .u64 r)) (results_cell_row rfl _ _ _ _ (Iv .u64 r) _ _ rfl M1 underlying189 rfl (dA l1.out)) rfl ⟨by rw[HV.out],B9⟩
theorem qS (l p:LI) (m:Int) (hl:l.length=32) (hp:p.length=32) (hlb:aC l) (hpb:aC p) (w:World):
 Calls prog 81 #[.agg (Iv .u8 l),.agg (Iv .u8 p),.int .i64 m] w fun e w'=>e=.returned (.tuple #[.agg (Iv .u8 (fW l p)),.int .i64 (IntKind.i64.wrap (m+1))])∧Below w.heap.size w w':=by
 have hzr:=WE
 have hz32:=yE
 have ll:Hid (l.length=32):=hl
 have lp:Hid (p.length=32):=hp
 have lpt:Hid ((uY p).length=32):=by show _=_;rw[uZ,hp]
 have lkl:Hid ((mO l).length=32):=by show _=_;rw[J6,hl]
 have lr:Hid ((fW l p).length=32):=bA l p
 obtain⟨d1,d2⟩:=aiF l p hl hlb hp hpb
 have C1:Hid (∀W,_):=fun W=>J7 (uY p) lpt.out (xX p hpb) W
 have C2:Hid (∀W,Calls prog 97 #[.agg (Iv .u8 (mO l)),.agg (Iv .u64 (vH (uY p)))] W fun e w'=>e=.returned (.agg (Iv .u64 ((smR l p).x1++(smR l p).z1)))∧Below W.heap.size W w'):=fun W=>by
  have h9:=U4 (mO l) (vH (uY p)) lkl.out (NW l hlb) d1 W
  rw[show qZ (mO l) (vH (uY p)) 255=smR l p from rfl]at h9
  exact h9
 have ER:Hid (JW (aiG l p 255%pF) 32=fW l p):=by show _=_;rw[adF];rfl
 have EN:Hid (∀m,(nZ (JZ l) (nB (uY p)) 255).x1*FV (nZ (JZ l) (nB (uY p)) 255).z1 m=aiG l p m):=fun m=>rfl
 obtain⟨n,en⟩:∃x,nZ (JZ l) (nB (uY p)) 255=x:=⟨_,rfl⟩
 rw[en]at d2 EN
 clear en
 obtain⟨q,eq⟩:∃x,smR l p=x:=⟨_,rfl⟩
 rw[eq]at C2 d2
 obtain⟨k255,ek⟩:∃x:Nat,x=255:=⟨_,rfl⟩
 have d3:=afL q n d2 k255
 rw[EN.out k255]at d3
 obtain⟨d4,d5⟩:=d3
 have d6:=d2.qel
 clear d2 EN
 have C3:Hid (∀W,Calls prog 100 #[.agg (Iv .u64 q.z1)] W fun e w'=>e=.returned (.agg (Iv .u64 (nK q.z1 k255)))∧Below W.heap.size W w'):=fun W=>by rw[ek];exact QN q.z1 d6.z1 W
 have C4:Hid (∀W,_):=fun W=>yA q.x1 (nK q.z1 k255) d6.x1 d4 W
 have C5:Hid (∀W,_):=fun W=>TN _ _ d5 W
 rw[←ek]at ER
 rw[ER.out]at C5
 clear ER d5
 obtain⟨mu,emu⟩:∃x,eM q.x1 (nK q.z1 k255)=x:=⟨_,rfl⟩
 rw[emu]at C4 C5
 obtain⟨iv,eiv⟩:∃x,nK q.z1 k255=x:=⟨_,rfl⟩
 rw[eiv]at C3 C4
 clear eiv ek d4 d1
 obtain⟨x1,z1,x2,z2⟩:=q
 have lx1:Hid (x1.length=5):=d6.x1.length
 have lz1:Hid (z1.length=5):=d6.z1.length
 clear d6
 have l1:Hid ((x1++z1).length=10):=by show _=_;rw[lQ,lx1.out,lz1.out]
 obtain⟨r,er⟩:∃x,fW l p=x:=⟨_,rfl⟩
 rw[er]at C5 lr⊢
 clear er
 obtain⟨u,eu⟩:∃x,vH (uY p)=x:=⟨_,rfl⟩
 rw[eu]at C1 C2
 have hb0:=hlb 0
 have hb1:=hlb 31
 have hb2:=hpb 31
 have HK:Hid ((l.set 0 (bits .and .u8 (l.getD 0 0) 248)).set 31 (bits .or .u8 (bits .and .u8 (l.getD 31 0) 127) 64)=mO l):=rfl
 have HPT:Hid (p.set 31 (bits .and .u8 (p.getD 31 0) 127)=uY p):=by show _=_;rw[aeA _ hb2];rfl
 have F9:Rn w [((w.heap.size+1+1),Iv .u8 (aA 32),25),((w.heap.size+1),Iv .u8 p,25),(w.heap.size,Iv .u8 l,25)] (((w.alloc (.cells (Iv .u8 l) 25)).alloc (.cells (Iv .u8 p) 25)).alloc (.cells (Iv .u8 (aA 32)) 25)):=((((Rn.start w).alloc' w.heap.size (by first|rfl|simp only[wU]) _ _).alloc' (w.heap.size+1) (by first|rfl|simp only[wU]) _ _).alloc' (w.heap.size+1+1) (by first|rfl|simp only[wU]) _ _)
 have hc0:(((w.alloc (.cells (Iv .u8 l) 25)).alloc (.cells (Iv .u8 p) 25)).alloc (.cells (Iv .u8 (aA 32)) 25)).cell? ⟨w.heap.size,0,none⟩=some (.int .u8 (l.getD 0 0)):=aE.cell (show aE _ w.heap.size .u8 l 25 from F9.at (mC _ (mC _ mQ))) 0 (by rw[ll.out];decide)
 have F9:Rn w [((w.heap.size+1+1),Iv .u8 (aA 32),25),((w.heap.size+1),Iv .u8 p,25),(w.heap.size,Iv .u8 (l.set 0 (bits .and .u8 (l.getD 0 0) 248)),25)] (((w.alloc (.cells (Iv .u8 (l.set 0 (bits .and .u8 (l.getD 0 0) 248))) 25)).alloc (.cells (Iv .u8 p) 25)).alloc (.cells (Iv .u8 (aA 32)) 25)):=((((Rn.start w).alloc' w.heap.size (by first|rfl|simp only[wU]) _ _).alloc' (w.heap.size+1) (by first|rfl|simp only[wU]) _ _).alloc' (w.heap.size+1+1) (by first|rfl|simp only[wU]) _ _)
 have hc1:(((w.alloc (.cells ((Iv .u8 l).setIfInBounds 0 (.int .u8 (bits .and .u8 (l.getD 0 0) 248))) 25)).alloc (.cells (Iv .u8 p) 25)).alloc (.cells (Iv .u8 (aA 32)) 25)).cell? ⟨w.heap.size,31,none⟩=some (.int .u8 (l.getD 31 0)):=by
  rw[bZ]
  have h9:=aE.cell (show aE _ w.heap.size .u8 _ 25 from F9.at (mC _ (mC _ mQ))) 31 (by rw[lJ,ll.out];decide)
  rw[tL _ _ _ _ (by rw[ll.out];decide),if_neg (by decide)]at h9
  exact h9
 clear F9
 have F9:Rn w [((w.heap.size+1+1),Iv .u8 (aA 32),25),((w.heap.size+1),Iv .u8 p,25),(w.heap.size,Iv .u8 ((l.set 0 (bits .and .u8 (l.getD 0 0) 248)).set 31 (bits .or .u8 (bits .and .u8 (l.getD 31 0) 127) 64)),25)] (((w.alloc (.cells (Iv .u8 ((l.set 0 (bits .and .u8 (l.getD 0 0) 248)).set 31 (bits .or .u8 (bits .and .u8 (l.getD 31 0) 127) 64))) 25)).alloc (.cells (Iv .u8 p) 25)).alloc (.cells (Iv .u8 (aA 32)) 25)):=((((Rn.start w).alloc' w.heap.size (by first|rfl|simp only[wU]) _ _).alloc' (w.heap.size+1) (by first|rfl|simp only[wU]) _ _).alloc' (w.heap.size+1+1) (by first|rfl|simp only[wU]) _ _)
 have hc2:(((w.alloc (.cells (((Iv .u8 l).setIfInBounds 0 (.int .u8 (bits .and .u8 (l.getD 0 0) 248))).setIfInBounds 31 (.int .u8 (bits .or .u8 (bits .and .u8 (l.getD 31 0) 127) 64))) 25)).alloc (.cells (Iv .u8 p) 25)).alloc (.cells (Iv .u8 (aA 32)) 25)).cell? ⟨(w.heap.size+1),31,none⟩=some (.int .u8 (p.getD 31 0)):=by
  rw[bZ,bZ]
  exact aE.cell (show aE _ (w.heap.size+1) .u8 p 25 from F9.at (mC _ mQ)) 31 (by rw[lp.out];decide)
 clear F9
 obtain⟨c0,e0⟩:∃x,l.getD 0 0=x:=⟨_,rfl⟩
 obtain⟨c1,e1⟩:∃x,l.getD 31 0=x:=⟨_,rfl⟩
 obtain⟨c2,e2⟩:∃x,p.getD 31 0=x:=⟨_,rfl⟩
 rw[e0]at hb0 HK hc0 hc1 hc2
 rw[e1]at hb1 HK hc1 hc2
 rw[e2]at hb2 HPT hc2
 clear e0 e1 e2
 obtain⟨kl,ekl⟩:∃x,mO l=x:=⟨_,rfl⟩
 rw[ekl]at C2 lkl HK
 obtain⟨pt,ept⟩:∃x,uY p=x:=⟨_,rfl⟩
 rw[ept]at C1 lpt HPT
 clear ept hlb hpb hl hp
 have F0:Rn w [((w.heap.size+1+1),Iv .u8 (aA 32),25),((w.heap.size+1),Iv .u8 pt,25),(w.heap.size,Iv .u8 kl,25)] (((w.alloc (.cells (Iv .u8 kl) 25)).alloc (.cells (Iv .u8 pt) 25)).alloc (.cells (Iv .u8 (aA 32)) 25)):=((((Rn.start w).alloc' w.heap.size (by first|rfl|simp only[wU]) _ _).alloc' (w.heap.size+1) (by first|rfl|simp only[wU]) _ _).alloc' (w.heap.size+1+1) (by first|rfl|simp only[wU]) _ _)
 obtain⟨W,hW⟩:∃W,(((w.alloc (.cells (Iv .u8 kl) 25)).alloc (.cells (Iv .u8 pt) 25)).alloc (.cells (Iv .u8 (aA 32)) 25))=W:=⟨_,rfl⟩
 rw[hW]at F0
 have F:Hid _:=F0
 have HW:Hid _:=hW
 clear hW F0
 go_enter func81,ntmps81
 go_wp2_with fail
 rw[bZ,bZ,bZ,HK.out,HPT.out];rw[HW.out]
 have FD:Hid _:=F.out.drew
 clear F
 refine wRt 5 (fun w'=>∃x:Wp (fun v=>Rn w [((w.heap.size+1+1),Iv .u8 (aA 32),25),((w.heap.size+1),Iv .u8 pt,25),(w.heap.size,Iv .u8 kl,25)] v),w'=x.w) (.held [0,1] (.fork 2 (.fork 3 (.tail 4 (.last 5 .done)) 4 (.tail 3 (.last 5 .done))) 4 (.tail 2 (.tail 3 (.last 5 .done))))) jE (by kernel_rfl) ⟨⟨_,FD.out⟩,rfl⟩ ?_
 obtain⟨V,eV⟩:∃V,V=W.drew:=⟨_,rfl⟩
 rw[←eV]at FD⊢
 clear eV
 refine wTh ?_
 simp only[oS]
 refine wqLr rfl 25 _ rfl w.heap.size rfl _ (Iv .u8 kl) _ _ (fun w' hw'=>by obtain⟨x,rfl⟩:=hw';exact x.p.at (mC _ (mC _ mQ))) underlying25 rfl (eN lkl.out) ?_
 simp only[pS]
 refine wqLr rfl 25 _ rfl (w.heap.size+1) rfl _ (Iv .u8 pt) _ _ (fun w' hw'=>by obtain⟨x,rfl⟩:=hw';exact x.p.at (mC _ mQ)) underlying25 rfl (eN lpt.out) ?_
 simp only[pS]
 refine wqN ?_
 apply cT (.last 5 .done) (fun c0 v=>Rn w [rR c0 (aA 10),((w.heap.size+1+1),Iv .u8 (aA 32),25),((w.heap.size+1),Iv .u8 pt,25),(w.heap.size,Iv .u8 kl,25)] v)
 intro h21
 apply cT (.tail 3 (.last 5 .done)) (fun c0 v=>Rn w [rR c0 (aA 10),((w.heap.size+1+1),Iv .u8 (aA 32),25),((w.heap.size+1),Iv .u8 pt,25),(w.heap.size,Iv .u8 kl,25)] v)
 intro h11
 apply JK (.tail 4 (.last 5 .done)) (fun v=>Rn w [((w.heap.size+1+1),Iv .u8 (aA 32),25),((w.heap.size+1),Iv .u8 pt,25),(w.heap.size,Iv .u8 kl,25)] v)
 intro h20
 apply cT (.tail 2 (.tail 3 (.last 5 .done))) (fun c0 v=>Rn w [rR c0 (aA 10),((w.heap.size+1+1),Iv .u8 (aA 32),25),((w.heap.size+1),Iv .u8 pt,25),(w.heap.size,Iv .u8 kl,25)] v)
 intro h01
 apply JK (.fork 3 (.tail 4 (.last 5 .done)) 4 (.tail 3 (.last 5 .done))) (fun v=>Rn w [((w.heap.size+1+1),Iv .u8 (aA 32),25),((w.heap.size+1),Iv .u8 pt,25),(w.heap.size,Iv .u8 kl,25)] v)
 intro h10
 have H:Hid _:=FD.out
 ·refine wTf ?_ ?_
  ·simp only[oS]
   go_wp2_with fail
   refine(C1.out _).mono ?_
   rintro e Z ⟨rfl,hb⟩
   have H2:Hid _:=H.out.later hb (nQ _)
   clear hb H
   go_wp2_with fail
   refine⟨⟨⟨_,H2.out⟩,rfl⟩,?_⟩
   exact h10.out  _ H2.out
  ·simp only[oS]
   go_wp2_with fail
   have H2:=H.out.alloc (Iv .u64 (aA 10)) 189
   refine⟨⟨⟨_,H2.tail⟩,rfl⟩,?_⟩
   obtain⟨c0,ec⟩:∃c,c=V.heap.size:=⟨_,rfl⟩
   rw[←ec]at H2⊢
   have H3:=H2
   exact h01.out c0 _ H3
 ·intro  v H0
  have H:Hid _:=H0
  clear H0
  refine wTf ?_ ?_
  ·simp only[oS]
   go_wp2_with fail
   refine(C2.out _).mono ?_
   rintro e Z ⟨rfl,hb⟩
   have H2:Hid _:=H.out.later hb (nQ _)
   go_wp2_with fail
   refine⟨⟨⟨_,H2.out⟩,rfl⟩,?_⟩
   exact h20.out  _ H2.out
  ·simp only[oS]
   go_wp2_with fail
   have H2:=H.out.alloc (Iv .u64 (aA 10)) 189
   refine⟨⟨⟨_,H2.tail⟩,rfl⟩,?_⟩
   obtain⟨c0,ec⟩:∃c,c=v.heap.size:=⟨_,rfl⟩
   rw[←ec]at H2⊢
   have H3:=H2
   exact h11.out c0 _ H3
 ·intro c0 v H0
  have H:Hid _:=H0
  refine wTt ?_
  simp only[oS]
  go_wp2_with fail
  refine(C1.out _).mono ?_
  rintro e Z ⟨rfl,hb⟩
  have H2:Hid _:=H.out.later hb (nQ _)
  clear hb H
  go_wp2_with fail
  refine⟨⟨⟨_,H2.out.tail⟩,rfl⟩,?_⟩
  exact h11.out c0 _ H2.out
 ·intro  v H0
  have H:Hid _:=H0
  clear H0
  refine wTt ?_
  simp only[oS]
  go_wp2_with fail
  have H2:=H.out.alloc (Iv .u64 (aA 10)) 189
  refine⟨⟨⟨_,H2.tail⟩,rfl⟩,?_⟩
  obtain⟨c0,ec⟩:∃c,c=v.heap.size:=⟨_,rfl⟩
  rw[←ec]at H2⊢
  have H3:=H2
  exact h21.out c0 _ H3
 ·intro c0 v H0
  have H:Hid _:=H0
  clear H0
  refine wTt ?_
  simp only[oS]
  go_wp2_with fail
  refine(C2.out _).mono ?_
  rintro e Z ⟨rfl,hb⟩
  have H2:Hid _:=H.out.later hb (nQ _)
  clear hb H
  go_wp2_with fail
  refine⟨⟨⟨_,H2.out.tail⟩,rfl⟩,?_⟩
  exact h21.out c0 _ H2.out
 intro b1 v0 H0
 have H:Hid _:=H0
 try clear FD
 have F:Hid _:=H.out
 clear H
 refine wTl ?_
 simp only[oS]
 have KA:Hid _:=F.out.at mQ
 go_wp2_with(refine wpPr rfl 189 _ _ rfl b1 (Iv .u64 (x1++z1)) rfl rfl _ _ KA.out (dA l1.out) (DW l1.out) (aG _ _) (fun v2 hP=>sH ?_))
 refine aH ?_
 have F1:Hid _:=F.out.put0 hP
 clear hP KA F
 have F:Hid _:=F1.out
 refine aQ ?_
 go_wp2_with fail
 have F1:Hid _:=F.out.drew
 clear F
 have F:Hid _:=F1.out
 clear F1
 refine wRt 10 (fun w'=>∃x:Wp (fun v=>Rn w [rR b1 (x1++z1),((w.heap.size+1),Iv .u8 pt,25),(w.heap.size,Iv .u8 kl,25)] v),w'=x.w) (.held [0,1,2,3,7,8] (.tail 4 (.tail 5 (.tail 6 (.tail 9 (.last 10 .done)))))) jE (by kernel_rfl) ⟨⟨_,F.out.sub (by repeat(first|exact List.Sublist.slnil|apply List.Sublist.cons_cons|apply List.Sublist.cons))⟩,rfl⟩ ?_
 refine wTh ?_
 simp only[oS]
 refine aB rfl (.pointer (some ⟨b1,0,none⟩)) (fun w'=>by kernel_rfl) ?_
 simp only[pS]
 refine wqLm rfl 187 _ rfl b1 0 rfl (x1.map (Value.int .u64)) _ (fun w' hw'=>by obtain⟨x,rfl⟩:=hw';exact gY (x.p.at mQ)) underlying187 rfl (jO lx1.out) ?_
 simp only[pS]
 refine aB rfl (.pointer (some ⟨b1,5,none⟩)) (fun w'=>by kernel_rfl) ?_
 simp only[pS]
 refine wqLm rfl 187 _ rfl b1 5 rfl (z1.map (Value.int .u64)) _ (fun w' hw'=>by obtain⟨x,rfl⟩:=hw';exact hJ 5 lx1.out (x.p.at mQ)) underlying187 rfl (jO lz1.out) ?_
 simp only[pS]
 refine aB rfl (.int .i64 m) (fun w'=>by kernel_rfl) ?_
 simp only[pS]
 refine aB rfl (.int .i64 (IntKind.i64.wrap (m+1))) (fun w'=>by kernel_rfl) ?_
 simp only[pS]
 refine wqN ?_
 refine wTt ?_
 simp only[oS]
 go_wp2_with fail
 refine(C3.out _).mono ?_
 rintro e9 v3 ⟨rfl,hb⟩
 have F1:Hid _:=F.out.later hb (nQ _)
 clear hb F
 have F:Hid _:=F1.out
 go_wp2_with fail
 refine⟨⟨⟨_,F.out.sub (by repeat(first|exact List.Sublist.slnil|apply List.Sublist.cons_cons|apply List.Sublist.cons))⟩,rfl⟩,?_⟩
 refine wTt ?_
 simp only[oS]
 go_wp2_with fail
 refine(C4.out _).mono ?_
 rintro e9 v4 ⟨rfl,hb⟩
 have F1:Hid _:=F.out.later hb (nQ _)
 clear hb F
 have F:Hid _:=F1.out
 go_wp2_with fail
 refine⟨⟨⟨_,F.out.sub (by repeat(first|exact List.Sublist.slnil|apply List.Sublist.cons_cons|apply List.Sublist.cons))⟩,rfl⟩,?_⟩
 refine wTt ?_
 simp only[oS]
 go_wp2_with fail
 refine(C5.out _).mono ?_
 rintro e9 v5 ⟨rfl,hb⟩
 have F1:Hid _:=F.out.later hb (nQ _)
 clear hb F
 have F:Hid _:=F1.out
 clear F1
 go_wp2_with fail
 refine⟨⟨⟨_,F.out.sub (by repeat(first|exact List.Sublist.slnil|apply List.Sublist.cons_cons|apply List.Sublist.cons))⟩,rfl⟩,?_⟩
 refine wTt ?_
 simp only[oS]
 have KA:Hid _:=F.out.at (mC _ mQ)
 go_wp2_with(refine wpPr rfl 25 _ _ rfl (w.heap.size+1+1) (Iv .u8 r) rfl rfl _ _ KA.out (eN lr.out) (yD lr.out) (aG _ _) (fun v6 hP=>sH ?_))
 refine aH ?_
 have F1:Hid _:=F.out.put1 hP
 clear hP KA F
 have F:Hid _:=F1.out
 go_wp2_with fail
 refine⟨⟨⟨_,F.out.sub (by repeat(first|exact List.Sublist.slnil|apply List.Sublist.cons_cons|apply List.Sublist.cons))⟩,rfl⟩,?_⟩
 refine wTl ?_
 simp only[oS]
 go_wp2_with fail
 refine aQ ?_
 have M1:=F.out.at (mC _ mQ)
 have B9:=F.out.bel
 clear F
 go_wp2
 exact bodyPost_ret (v:=.tuple #[.agg (Iv .u8 r),.int .i64 (IntKind.i64.wrap (m+1))]) (dQ rfl _ _ _ _ (Iv .u8 r) _ _ rfl rfl M1 underlying25 rfl (eN lr.out)) rfl ⟨rfl,B9⟩
theorem dU (l p:LI) (m:Int) (hl:l.length=32) (hp:p.length=32) (hlb:aC l) (hpb:aC p) (w:World):
 Calls prog 16 #[.agg (Iv .u8 l),.agg (Iv .u8 p),.int .i64 m] w fun e w'=>e=.returned (.tuple #[.agg (Iv .u8 (fW l p)),.int .i64 (IntKind.i64.wrap (m+1))])∧Below w.heap.size w w':=by
 have hzp:=JV
 have hz32:=yE
 have ll:Hid (l.length=32):=hl
 have lp:Hid (p.length=32):=hp
 have lpt:Hid ((uY p).length=32):=by show _=_;rw[uZ,hp]
 have lr:Hid ((fW l p).length=32):=bA l p
 obtain⟨d1,d2,d3,d4,d5,d6,d7,d8⟩:=aiH l p hp hpb
 have C1:Hid (∀W,_):=fun W=>ac7 (uY p) lpt.out (xX p hpb) W
 have C2:Hid (∀W,Calls prog 33 #[.agg (Iv .u8 l),.int .i64 0,.agg (Iv .i64 (pG (uY p)))] W fun e w'=>e=.returned (.tuple #[.agg (Iv .i64 (zF (KN l p))),.agg (Iv .i64 (vB (KN l p)))])∧Below W.heap.size W w'):=fun W=>by
  have h9:=RI l (pG (uY p)) hl hlb d1 255 0 rfl W
  rw[show cW l (pG (uY p)) 255=KN l p from rfl]at h9
  exact h9
 have C3:Hid (∀W,_):=fun W=>UM (KN l p).z1 d3 W
 have C4:Hid (∀W,_):=fun W=>mJ (KN l p).x1 (nL (KN l p).z1 255) d2 d6 W
 have C5:Hid (∀W,_):=fun W=>abF _ d7 W
 rw[d8]at C5
 rw[show JW (smN l p%pF) 32=fW l p from rfl]at C5
 obtain⟨r,er⟩:∃x,fW l p=x:=⟨_,rfl⟩
 rw[er]at C5 lr⊢
 clear er d8
 obtain⟨mu,emu⟩:∃x,fU (KN l p).x1 (nL (KN l p).z1 255)=x:=⟨_,rfl⟩
 rw[emu]at C4 C5 d7
 obtain⟨iv,eiv⟩:∃x,nL (KN l p).z1 255=x:=⟨_,rfl⟩
 rw[eiv]at C3 C4 d6
 clear eiv
 obtain⟨q,eq⟩:∃x,KN l p=x:=⟨_,rfl⟩
 rw[eq]at C2 C3 C4 d2 d3 d4 d5
 clear eq
 obtain⟨x1,z1,x2,z2⟩:=q
 have lx1:Hid (x1.length=16):=d2.1
 have lz1:Hid (z1.length=16):=d3.1
 have l1:Hid ((x1++z1).length=32):=by show _=_;rw[lQ,d2.1,d3.1]
 have l2:Hid ((x2++z2).length=32):=by show _=_;rw[lQ,d4.1,d5.1]
 obtain⟨u,eu⟩:∃x,pG (uY p)=x:=⟨_,rfl⟩
 rw[eu]at C1 C2
 have hcb:=hpb 31
 obtain⟨c,ec⟩:∃x,p.getD 31 0=x:=⟨_,rfl⟩
 rw[ec]at hcb
 have HPT:Hid (p.set 31 (c%128)=uY p):=by show _=_;rw[←ec];rfl
 obtain⟨pt,ept⟩:∃x,uY p=x:=⟨_,rfl⟩
 rw[ept]at C1 lpt HPT
 have EC:Hid _:=ec
 clear ec
 have F9:Rn w [((w.heap.size+1+1),Iv .u8 (aA 32),25),((w.heap.size+1),Iv .u8 p,25),(w.heap.size,Iv .u8 l,25)] (((w.alloc (.cells (Iv .u8 l) 25)).alloc (.cells (Iv .u8 p) 25)).alloc (.cells (Iv .u8 (aA 32)) 25)):=((((Rn.start w).alloc' w.heap.size (by first|rfl|simp only[wU]) _ _).alloc' (w.heap.size+1) (by first|rfl|simp only[wU]) _ _).alloc' (w.heap.size+1+1) (by first|rfl|simp only[wU]) _ _)
 have hc:(((w.alloc (.cells (Iv .u8 l) 25)).alloc (.cells (Iv .u8 p) 25)).alloc (.cells (Iv .u8 (aA 32)) 25)).cell? ⟨(w.heap.size+1),31,none⟩=some (.int .u8 c):=by rw[←EC.out];exact aE.cell (show aE _ (w.heap.size+1) .u8 p 25 from F9.at (mC _ mQ)) 31 (by rw[lp.out];decide)
 clear F9
 have F0:Rn w [((w.heap.size+1+1),Iv .u8 (aA 32),25),((w.heap.size+1),Iv .u8 pt,25),(w.heap.size,Iv .u8 l,25)] (((w.alloc (.cells (Iv .u8 l) 25)).alloc (.cells (Iv .u8 pt) 25)).alloc (.cells (Iv .u8 (aA 32)) 25)):=((((Rn.start w).alloc' w.heap.size (by first|rfl|simp only[wU]) _ _).alloc' (w.heap.size+1) (by first|rfl|simp only[wU]) _ _).alloc' (w.heap.size+1+1) (by first|rfl|simp only[wU]) _ _)
 obtain⟨W,hW⟩:∃W,(((w.alloc (.cells (Iv .u8 l) 25)).alloc (.cells (Iv .u8 pt) 25)).alloc (.cells (Iv .u8 (aA 32)) 25))=W:=⟨_,rfl⟩
 rw[hW]at F0
 have F:Hid _:=F0
 have HW:Hid _:=hW
 go_enter func16,ntmps16
 go_wp2_with fail
 rw[bZ,HPT.out];rw[HW.out]
 clear HW
 have FD:Hid _:=F.out.drew
 refine wRt 10 (fun w'=>∃x:Wp (fun v=>Rn w [((w.heap.size+1+1),Iv .u8 (aA 32),25),((w.heap.size+1),Iv .u8 pt,25),(w.heap.size,Iv .u8 l,25)] v),w'=x.w) (.held [0,1] (.fork3 2 (.fork3 3 (.held [4,5,6] (.fork 7 (.tail 8 (.tail 9 (.last 10 .done))) 8 (.tail 7 (.tail 9 (.last 10 .done))))) 7 (.fork 3 (.held [4,5,6] (.tail 8 (.tail 9 (.last 10 .done)))) 8 (.tail 3 (.held [4,5,6] (.tail 9 (.last 10 .done))))) 8 (.fork 3 (.held [4,5,6] (.tail 7 (.tail 9 (.last 10 .done)))) 7 (.tail 3 (.held [4,5,6] (.tail 9 (.last 10 .done)))))) 7 (.fork 2 (.fork 3 (.held [4,5,6] (.tail 8 (.tail 9 (.last 10 .done)))) 8 (.tail 3 (.held [4,5,6] (.tail 9 (.last 10 .done))))) 8 (.tail 2 (.tail 3 (.held [4,5,6] (.tail 9 (.last 10 .done)))))) 8 (.fork 2 (.fork 3 (.held [4,5,6] (.tail 7 (.tail 9 (.last 10 .done)))) 7 (.tail 3 (.held [4,5,6] (.tail 9 (.last 10 .done))))) 7 (.tail 2 (.tail 3 (.held [4,5,6] (.tail 9 (.last 10 .done)))))))) jE (by kernel_rfl) ⟨⟨_,FD.out⟩,rfl⟩ ?_
 obtain⟨V,eV⟩:∃V,V=W.drew:=⟨_,rfl⟩
 rw[←eV]at FD⊢
 clear eV
 refine wTh ?_
 simp only[oS]
 refine wqLr rfl 25 _ rfl w.heap.size rfl _ (Iv .u8 l) _ _ (fun w' hw'=>by obtain⟨x,rfl⟩:=hw';exact x.p.at (mC _ (mC _ mQ))) underlying25 rfl (eN ll.out) ?_
 simp only[pS]
 refine wqLr rfl 25 _ rfl (w.heap.size+1) rfl _ (Iv .u8 pt) _ _ (fun w' hw'=>by obtain⟨x,rfl⟩:=hw';exact x.p.at (mC _ mQ)) underlying25 rfl (eN lpt.out) ?_
 simp only[pS]
 refine wqN ?_
 apply pQ (.tail 9 (.last 10 .done)) (fun c0 c1 v=>Rn w [(c1,Iv .i64 (aA 32),90),(c0,Iv .i64 (aA 32),90),((w.heap.size+1+1),Iv .u8 (aA 32),25),((w.heap.size+1),Iv .u8 pt,25),(w.heap.size,Iv .u8 l,25)] v)
 intro h211
 apply pQ (.tail 3 (.held [4,5,6] (.tail 9 (.last 10 .done)))) (fun c0 c1 v=>Rn w [(c1,Iv .i64 (aA 32),90),(c0,Iv .i64 (aA 32),90),((w.heap.size+1+1),Iv .u8 (aA 32),25),((w.heap.size+1),Iv .u8 pt,25),(w.heap.size,Iv .u8 l,25)] v)
 intro h111
 apply cT (.tail 7 (.tail 9 (.last 10 .done))) (fun c1 v=>Rn w [(c1,Iv .i64 (aA 32),90),((w.heap.size+1+1),Iv .u8 (aA 32),25),((w.heap.size+1),Iv .u8 pt,25),(w.heap.size,Iv .u8 l,25)] v)
 intro h201
 apply cT (.tail 8 (.tail 9 (.last 10 .done))) (fun c0 v=>Rn w [(c0,Iv .i64 (aA 32),90),((w.heap.size+1+1),Iv .u8 (aA 32),25),((w.heap.size+1),Iv .u8 pt,25),(w.heap.size,Iv .u8 l,25)] v)
 intro h210
 apply pQ (.tail 2 (.tail 3 (.held [4,5,6] (.tail 9 (.last 10 .done))))) (fun c0 c1 v=>Rn w [(c1,Iv .i64 (aA 32),90),(c0,Iv .i64 (aA 32),90),((w.heap.size+1+1),Iv .u8 (aA 32),25),((w.heap.size+1),Iv .u8 pt,25),(w.heap.size,Iv .u8 l,25)] v)
 intro h011
 apply cT (.fork 3 (.held [4,5,6] (.tail 7 (.tail 9 (.last 10 .done)))) 7 (.tail 3 (.held [4,5,6] (.tail 9 (.last 10 .done))))) (fun c1 v=>Rn w [(c1,Iv .i64 (aA 32),90),((w.heap.size+1+1),Iv .u8 (aA 32),25),((w.heap.size+1),Iv .u8 pt,25),(w.heap.size,Iv .u8 l,25)] v)
 intro h101
 apply cT (.fork 3 (.held [4,5,6] (.tail 8 (.tail 9 (.last 10 .done)))) 8 (.tail 3 (.held [4,5,6] (.tail 9 (.last 10 .done))))) (fun c0 v=>Rn w [(c0,Iv .i64 (aA 32),90),((w.heap.size+1+1),Iv .u8 (aA 32),25),((w.heap.size+1),Iv .u8 pt,25),(w.heap.size,Iv .u8 l,25)] v)
 intro h110
 apply JK (.fork 7 (.tail 8 (.tail 9 (.last 10 .done))) 8 (.tail 7 (.tail 9 (.last 10 .done)))) (fun v=>Rn w [((w.heap.size+1+1),Iv .u8 (aA 32),25),((w.heap.size+1),Iv .u8 pt,25),(w.heap.size,Iv .u8 l,25)] v)
 intro h200
 apply cT (.fork 2 (.fork 3 (.held [4,5,6] (.tail 7 (.tail 9 (.last 10 .done)))) 7 (.tail 3 (.held [4,5,6] (.tail 9 (.last 10 .done))))) 7 (.tail 2 (.tail 3 (.held [4,5,6] (.tail 9 (.last 10 .done)))))) (fun c1 v=>Rn w [(c1,Iv .i64 (aA 32),90),((w.heap.size+1+1),Iv .u8 (aA 32),25),((w.heap.size+1),Iv .u8 pt,25),(w.heap.size,Iv .u8 l,25)] v)
 intro h001
 apply cT (.fork 2 (.fork 3 (.held [4,5,6] (.tail 8 (.tail 9 (.last 10 .done)))) 8 (.tail 3 (.held [4,5,6] (.tail 9 (.last 10 .done))))) 8 (.tail 2 (.tail 3 (.held [4,5,6] (.tail 9 (.last 10 .done)))))) (fun c0 v=>Rn w [(c0,Iv .i64 (aA 32),90),((w.heap.size+1+1),Iv .u8 (aA 32),25),((w.heap.size+1),Iv .u8 pt,25),(w.heap.size,Iv .u8 l,25)] v)
 intro h010
 apply JK (.fork3 3 (.held [4,5,6] (.fork 7 (.tail 8 (.tail 9 (.last 10 .done))) 8 (.tail 7 (.tail 9 (.last 10 .done))))) 7 (.fork 3 (.held [4,5,6] (.tail 8 (.tail 9 (.last 10 .done)))) 8 (.tail 3 (.held [4,5,6] (.tail 9 (.last 10 .done))))) 8 (.fork 3 (.held [4,5,6] (.tail 7 (.tail 9 (.last 10 .done)))) 7 (.tail 3 (.held [4,5,6] (.tail 9 (.last 10 .done)))))) (fun v=>Rn w [((w.heap.size+1+1),Iv .u8 (aA 32),25),((w.heap.size+1),Iv .u8 pt,25),(w.heap.size,Iv .u8 l,25)] v)
 intro h100
 have H:Hid _:=FD.out
 ·refine wTf3 ?_ ?_ ?_
  ·simp only[oS]
   go_wp2_with fail
   refine(C1.out _).mono ?_
   rintro e Z ⟨rfl,hb⟩
   have H2:Hid _:=H.out.later hb (nQ _)
   clear hb H
   go_wp2_with fail
   refine⟨⟨⟨_,H2.out⟩,rfl⟩,?_⟩
   exact h100.out  _ H2.out
  ·simp only[oS]
   go_wp2_with fail
   have H2:=H.out.alloc (Iv .i64 (aA 32)) 90
   refine⟨⟨⟨_,H2.tail⟩,rfl⟩,?_⟩
   obtain⟨c0,ec⟩:∃c,c=V.heap.size:=⟨_,rfl⟩
   rw[←ec]at H2⊢
   have H3:=H2
   exact h010.out c0 _ H3
  ·simp only[oS]
   go_wp2_with fail
   have H2:=H.out.alloc (Iv .i64 (aA 32)) 90
   refine⟨⟨⟨_,H2.tail⟩,rfl⟩,?_⟩
   obtain⟨c1,ec⟩:∃c,c=V.heap.size:=⟨_,rfl⟩
   rw[←ec]at H2⊢
   have H3:=H2
   exact h001.out c1 _ H3
 ·intro  v H0
  have H:Hid _:=H0
  refine wTf3 ?_ ?_ ?_
  ·simp only[oS]
   go_wp2_with fail
   refine(C2.out _).mono ?_
   rintro e Z ⟨rfl,hb⟩
   have H2:Hid _:=H.out.later hb (nQ _)
   go_wp2_with fail
   refine⟨⟨⟨_,H2.out⟩,rfl⟩,?_⟩
   refine wTh ?_
   simp only[oS]
   refine aB rfl (.tuple #[.agg (Iv .i64 (x1++z1)),.agg (Iv .i64 (x2++z2))]) (fun w'=>by kernel_rfl) ?_
   simp only[pS]
   refine aB rfl (.agg (Iv .i64 (x1++z1))) (fun w'=>by kernel_rfl) ?_
   simp only[pS]
   refine aB rfl (.agg (Iv .i64 (x2++z2))) (fun w'=>by kernel_rfl) ?_
   simp only[pS]
   refine wqN ?_
   exact h200.out  _ H2.out
  ·simp only[oS]
   go_wp2_with fail
   have H2:=H.out.alloc (Iv .i64 (aA 32)) 90
   refine⟨⟨⟨_,H2.tail⟩,rfl⟩,?_⟩
   obtain⟨c0,ec⟩:∃c,c=v.heap.size:=⟨_,rfl⟩
   rw[←ec]at H2⊢
   have H3:=H2
   exact h110.out c0 _ H3
  ·simp only[oS]
   go_wp2_with fail
   have H2:=H.out.alloc (Iv .i64 (aA 32)) 90
   refine⟨⟨⟨_,H2.tail⟩,rfl⟩,?_⟩
   obtain⟨c1,ec⟩:∃c,c=v.heap.size:=⟨_,rfl⟩
   rw[←ec]at H2⊢
   have H3:=H2
   exact h101.out c1 _ H3
 ·intro c0 v H0
  have H:Hid _:=H0
  clear H0
  refine wTf ?_ ?_
  ·simp only[oS]
   go_wp2_with fail
   refine(C1.out _).mono ?_
   rintro e Z ⟨rfl,hb⟩
   have H2:Hid _:=H.out.later hb (nQ _)
   clear hb H
   go_wp2_with fail
   refine⟨⟨⟨_,H2.out.tail⟩,rfl⟩,?_⟩
   exact h110.out c0 _ H2.out
  ·simp only[oS]
   go_wp2_with fail
   have H2:=H.out.alloc (Iv .i64 (aA 32)) 90
   refine⟨⟨⟨_,H2.tail.tail⟩,rfl⟩,?_⟩
   obtain⟨c1,ec⟩:∃c,c=v.heap.size:=⟨_,rfl⟩
   rw[←ec]at H2⊢
   have H3:=H2
   exact h011.out c0 c1 _ H3
 ·intro c1 v H0
  have H:Hid _:=H0
  refine wTf ?_ ?_
  ·simp only[oS]
   go_wp2_with fail
   refine(C1.out _).mono ?_
   rintro e Z ⟨rfl,hb⟩
   have H2:Hid _:=H.out.later hb (nQ _)
   clear hb H
   go_wp2_with fail
   refine⟨⟨⟨_,H2.out.tail⟩,rfl⟩,?_⟩
   exact h101.out c1 _ H2.out
  ·simp only[oS]
   go_wp2_with fail
   have H2:=H.out.alloc (Iv .i64 (aA 32)) 90
   refine⟨⟨⟨_,H2.tail.tail⟩,rfl⟩,?_⟩
   obtain⟨c0,ec⟩:∃c,c=v.heap.size:=⟨_,rfl⟩
   rw[←ec]at H2⊢
   have H3:=H2.two
   exact h011.out c0 c1 _ H3
 ·intro  v H0
  have H:Hid _:=H0
  refine wTf ?_ ?_
  ·simp only[oS]
   go_wp2_with fail
   have H2:=H.out.alloc (Iv .i64 (aA 32)) 90
   refine⟨⟨⟨_,H2.tail⟩,rfl⟩,?_⟩
   obtain⟨c0,ec⟩:∃c,c=v.heap.size:=⟨_,rfl⟩
   rw[←ec]at H2⊢
   have H3:=H2
   exact h210.out c0 _ H3
  ·simp only[oS]
   go_wp2_with fail
   have H2:=H.out.alloc (Iv .i64 (aA 32)) 90
   refine⟨⟨⟨_,H2.tail⟩,rfl⟩,?_⟩
   obtain⟨c1,ec⟩:∃c,c=v.heap.size:=⟨_,rfl⟩
   rw[←ec]at H2⊢
   have H3:=H2
   exact h201.out c1 _ H3
 ·intro c0 v H0
  have H:Hid _:=H0
  clear H0
  refine wTf ?_ ?_
  ·simp only[oS]
   go_wp2_with fail
   refine(C2.out _).mono ?_
   rintro e Z ⟨rfl,hb⟩
   have H2:Hid _:=H.out.later hb (nQ _)
   clear hb H
   go_wp2_with fail
   refine⟨⟨⟨_,H2.out.tail⟩,rfl⟩,?_⟩
   refine wTh ?_
   simp only[oS]
   refine aB rfl (.tuple #[.agg (Iv .i64 (x1++z1)),.agg (Iv .i64 (x2++z2))]) (fun w'=>by kernel_rfl) ?_
   simp only[pS]
   refine aB rfl (.agg (Iv .i64 (x1++z1))) (fun w'=>by kernel_rfl) ?_
   simp only[pS]
   refine aB rfl (.agg (Iv .i64 (x2++z2))) (fun w'=>by kernel_rfl) ?_
   simp only[pS]
   refine wqN ?_
   exact h210.out c0 _ H2.out
  ·simp only[oS]
   go_wp2_with fail
   have H2:=H.out.alloc (Iv .i64 (aA 32)) 90
   refine⟨⟨⟨_,H2.tail.tail⟩,rfl⟩,?_⟩
   obtain⟨c1,ec⟩:∃c,c=v.heap.size:=⟨_,rfl⟩
   rw[←ec]at H2⊢
   have H3:=H2
   exact h111.out c0 c1 _ H3
 ·intro c1 v H0
  have H:Hid _:=H0
  refine wTf ?_ ?_
  ·simp only[oS]
   go_wp2_with fail
   refine(C2.out _).mono ?_
   rintro e Z ⟨rfl,hb⟩
   have H2:Hid _:=H.out.later hb (nQ _)
   go_wp2_with fail
   refine⟨⟨⟨_,H2.out.tail⟩,rfl⟩,?_⟩
   refine wTh ?_
   simp only[oS]
   refine aB rfl (.tuple #[.agg (Iv .i64 (x1++z1)),.agg (Iv .i64 (x2++z2))]) (fun w'=>by kernel_rfl) ?_
   simp only[pS]
   refine aB rfl (.agg (Iv .i64 (x1++z1))) (fun w'=>by kernel_rfl) ?_
   simp only[pS]
   refine aB rfl (.agg (Iv .i64 (x2++z2))) (fun w'=>by kernel_rfl) ?_
   simp only[pS]
   refine wqN ?_
   exact h201.out c1 _ H2.out
  ·simp only[oS]
   go_wp2_with fail
   have H2:=H.out.alloc (Iv .i64 (aA 32)) 90
   refine⟨⟨⟨_,H2.tail.tail⟩,rfl⟩,?_⟩
   obtain⟨c0,ec⟩:∃c,c=v.heap.size:=⟨_,rfl⟩
   rw[←ec]at H2⊢
   have H3:=H2.two
   exact h111.out c0 c1 _ H3
 ·intro c0 c1 v H0
  have H:Hid _:=H0
  clear H0
  refine wTt ?_
  simp only[oS]
  go_wp2_with fail
  refine(C1.out _).mono ?_
  rintro e Z ⟨rfl,hb⟩
  have H2:Hid _:=H.out.later hb (nQ _)
  clear hb H
  go_wp2_with fail
  refine⟨⟨⟨_,H2.out.tail.tail⟩,rfl⟩,?_⟩
  exact h111.out c0 c1 _ H2.out
 ·intro c0 v H0
  have H:Hid _:=H0
  refine wTt ?_
  simp only[oS]
  go_wp2_with fail
  have H2:=H.out.alloc (Iv .i64 (aA 32)) 90
  refine⟨⟨⟨_,H2.tail.tail⟩,rfl⟩,?_⟩
  obtain⟨c1,ec⟩:∃c,c=v.heap.size:=⟨_,rfl⟩
  rw[←ec]at H2⊢
  have H3:=H2
  exact h211.out c0 c1 _ H3
 ·intro c1 v H0
  have H:Hid _:=H0
  clear H0
  refine wTt ?_
  simp only[oS]
  go_wp2_with fail
  have H2:=H.out.alloc (Iv .i64 (aA 32)) 90
  refine⟨⟨⟨_,H2.tail.tail⟩,rfl⟩,?_⟩
  obtain⟨c0,ec⟩:∃c,c=v.heap.size:=⟨_,rfl⟩
  rw[←ec]at H2⊢
  have H3:=H2.two
  exact h211.out c0 c1 _ H3
 ·intro c0 c1 v H0
  have H:Hid _:=H0
  refine wTt ?_
  simp only[oS]
  go_wp2_with fail
  refine(C2.out _).mono ?_
  rintro e Z ⟨rfl,hb⟩
  have H2:Hid _:=H.out.later hb (nQ _)
  clear hb H
  go_wp2_with fail
  refine⟨⟨⟨_,H2.out.tail.tail⟩,rfl⟩,?_⟩
  refine wTh ?_
  simp only[oS]
  refine aB rfl (.tuple #[.agg (Iv .i64 (x1++z1)),.agg (Iv .i64 (x2++z2))]) (fun w'=>by kernel_rfl) ?_
  simp only[pS]
  refine aB rfl (.agg (Iv .i64 (x1++z1))) (fun w'=>by kernel_rfl) ?_
  simp only[pS]
  refine aB rfl (.agg (Iv .i64 (x2++z2))) (fun w'=>by kernel_rfl) ?_
  simp only[pS]
  refine wqN ?_
  exact h211.out c0 c1 _ H2.out
 intro b1 b2 v0 H0
 have H:Hid _:=H0
 clear H0
 try clear FD
 have F:Hid _:=H.out
 refine wTt ?_
 simp only[oS]
 have KA:Hid _:=F.out.at (mC _ mQ)
 go_wp2_with(refine wpPr rfl 90 _ _ rfl b1 (Iv .i64 (x1++z1)) rfl rfl _ _ KA.out (dD l1.out) (lP l1.out) (aG _ _) (fun v2 hP=>sH ?_))
 refine aH ?_
 have F1:Hid _:=F.out.put1 hP
 have F:Hid _:=F1.out
 clear F1
 go_wp2_with fail
 refine⟨⟨⟨_,F.out.tail.tail⟩,rfl⟩,?_⟩
 refine wTl ?_
 simp only[oS]
 have KA:Hid _:=F.out.at mQ
 go_wp2_with(refine wpPr rfl 90 _ _ rfl b2 (Iv .i64 (x2++z2)) rfl rfl _ _ KA.out (dD l2.out) (lP l2.out) (aG _ _) (fun v3 hP=>sH ?_))
 refine aH ?_
 have F1:Hid _:=F.out.put0 hP
 clear hP KA F
 have F:Hid _:=F1.out
 refine aQ ?_
 go_wp2_with fail
 have F1:Hid _:=F.out.drew
 clear F
 have F:Hid _:=F1.out
 refine wRt 10 (fun w'=>∃x:Wp (fun v=>Rn w [(b2,Iv .i64 (x2++z2),90),(b1,Iv .i64 (x1++z1),90),((w.heap.size+1),Iv .u8 pt,25),(w.heap.size,Iv .u8 l,25)] v),w'=x.w) (.held [0,1,2,3,7,8] (.tail 4 (.tail 5 (.tail 6 (.tail 9 (.last 10 .done)))))) jE (by kernel_rfl) ⟨⟨_,F.out.sub (by repeat(first|exact List.Sublist.slnil|apply List.Sublist.cons_cons|apply List.Sublist.cons))⟩,rfl⟩ ?_
 refine wTh ?_
 simp only[oS]
 refine aB rfl (.pointer (some ⟨b1,0,none⟩)) (fun w'=>by kernel_rfl) ?_
 simp only[pS]
 refine wqLm rfl 88 _ rfl b1 0 rfl (x1.map (Value.int .i64)) _ (fun w' hw'=>by obtain⟨x,rfl⟩:=hw';exact gY (x.p.at (mC _ mQ))) underlying88 rfl (jP lx1.out) ?_
 simp only[pS]
 refine aB rfl (.pointer (some ⟨b1,16,none⟩)) (fun w'=>by kernel_rfl) ?_
 simp only[pS]
 refine wqLm rfl 88 _ rfl b1 16 rfl (z1.map (Value.int .i64)) _ (fun w' hw'=>by obtain⟨x,rfl⟩:=hw';exact hJ 16 lx1.out (x.p.at (mC _ mQ))) underlying88 rfl (jP lz1.out) ?_
 simp only[pS]
 refine aB rfl (.int .i64 m) (fun w'=>by kernel_rfl) ?_
 simp only[pS]
 refine aB rfl (.int .i64 (IntKind.i64.wrap (m+1))) (fun w'=>by kernel_rfl) ?_
 simp only[pS]
 refine wqN ?_
 refine wTt ?_
 simp only[oS]
 go_wp2_with fail
 refine(C3.out _).mono ?_
 rintro e9 v4 ⟨rfl,hb⟩
 have F1:Hid _:=F.out.later hb (nQ _)
 clear hb F
 have F:Hid _:=F1.out
 clear F1
 go_wp2_with fail
 refine⟨⟨⟨_,F.out.sub (by repeat(first|exact List.Sublist.slnil|apply List.Sublist.cons_cons|apply List.Sublist.cons))⟩,rfl⟩,?_⟩
 refine wTt ?_
 simp only[oS]
 go_wp2_with fail
 refine(C4.out _).mono ?_
 rintro e9 v5 ⟨rfl,hb⟩
 have F1:Hid _:=F.out.later hb (nQ _)
 have F:Hid _:=F1.out
 go_wp2_with fail
 refine⟨⟨⟨_,F.out.sub (by repeat(first|exact List.Sublist.slnil|apply List.Sublist.cons_cons|apply List.Sublist.cons))⟩,rfl⟩,?_⟩
 refine wTt ?_
 simp only[oS]
 go_wp2_with fail
 refine(C5.out _).mono ?_
 rintro e9 v6 ⟨rfl,hb⟩
 have F1:Hid _:=F.out.later hb (nQ _)
 clear hb F
 have F:Hid _:=F1.out
 clear F1
 go_wp2_with fail
 refine⟨⟨⟨_,F.out.sub (by repeat(first|exact List.Sublist.slnil|apply List.Sublist.cons_cons|apply List.Sublist.cons))⟩,rfl⟩,?_⟩
 refine wTt ?_
 simp only[oS]
 have KA:Hid _:=F.out.at (mC _ (mC _ mQ))
 go_wp2_with(refine wpPr rfl 25 _ _ rfl (w.heap.size+1+1) (Iv .u8 r) rfl rfl _ _ KA.out (eN lr.out) (yD lr.out) (aG _ _) (fun v7 hP=>sH ?_))
 refine aH ?_
 have F1:Hid _:=F.out.put2 hP
 have F:Hid _:=F1.out
 clear F1
 go_wp2_with fail
 refine⟨⟨⟨_,F.out.sub (by repeat(first|exact List.Sublist.slnil|apply List.Sublist.cons_cons|apply List.Sublist.cons))⟩,rfl⟩,?_⟩
 refine wTl ?_
 simp only[oS]
 go_wp2_with fail
 refine aQ ?_
 have M1:=F.out.at (mC _ (mC _ mQ))
 have B9:=F.out.bel
 go_wp2
 exact bodyPost_ret (v:=.tuple #[.agg (Iv .u8 r),.int .i64 (IntKind.i64.wrap (m+1))]) (dQ rfl _ _ _ _ (Iv .u8 r) _ _ rfl rfl M1 underlying25 rfl (eN lr.out)) rfl ⟨rfl,B9⟩
end Go.Proofs.YtmjccemdldidaaaGreatDoor
