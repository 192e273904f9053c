import Derived.Test.YtmjccemdldidaaaGreatDoorMH08
namespace Go.Proofs.YtmjccemdldidaaaGreatDoor
open Go.RowKit
open Go.Proofs.Tryz
open Go.RowKit Go.Lib
open Go renaming heap_alloc_new → hAN, rounds_succ → rdS, wpList_load_row → wpLr
open Go.World renaming size_alloc → wU
open List renaming mem_cons_of_mem → mC, mem_cons_self → mQ, mem_singleton → mU, not_mem_nil → nY
open Nat renaming le_refl → nQ
set_option linter.unusedVariables false
set_option maxHeartbeats 8000000
set_option maxRecDepth 100000
def nL (l:LI):Nat→LI
 | 0=>(1::aA 15)
 | m+1=>if 254 - m=2∨254 - m=4 then fU (nL l m) (nL l m)else fU (fU (nL l m) (nL l m)) l
theorem lV.pow {l:LI} {x:Int} (h:lV l x):∀m,lV (nL l m) (FV x m)
 | 0=>lV.small 1 (by decide)
 | m+1=>by
   have ih:=lV.pow h m
   unfold nL FV
   split
   ·exact ih.mul ih
   ·exact(ih.mul ih).mul h
theorem ZU {l:LI} {m:Nat} (h:254 - m=2∨254 - m=4):nL l (m+1)=fU (nL l m) (nL l m):=by rw[nL,if_pos h]
theorem ZT {l:LI} {m:Nat} (h:¬(254 - m=2∨254 - m=4)):nL l (m+1)=fU (fU (nL l m) (nL l m)) l:=by rw[nL,if_neg h]
theorem aeX {l:LI} (h:Dg l) (m:Nat):Dg (nL l m):=(((show lV l (dN l)from⟨h,0,by omega⟩)).pow m).1
theorem UM (a:LI) (ha:Dg a) (w:World):
 Calls prog 37 #[.agg (Iv .i64 a)] w fun e w'=>e=.returned (.agg (Iv .i64 (nL a 255)))∧Below w.heap.size w w':=by
 have hzv:=vF
 have hi:Hid (∀l:LI,l.length=16→(prog.info? 88).map (·.size)=some (Iv .i64 l).size):=fun l hl=>aX hl
 have HA:Hid (Dg a):=ha
 have HF:Hid _:=fun m=>aeX ha m
 have hal:Hid (a.length=16):=ha.1
 clear ha
 have hlen:Hid (∀m,(nL a m).length=16):=fun m=>(HF.out m).1
 obtain⟨W,hW,g0,g1,hsz,hB⟩:=iU w (.cells (Iv .i64 a) 88) (.cells (Iv .i64 (aA 16)) 88)
 have F0:Hid (Rw w [((w.heap.size+1),Iv .i64 (aA 16),88),(w.heap.size,Iv .i64 a,88)] W):=
  ⟨hB,fun r hr=>by
   simp only[List.mem_cons,nY,or_false]at hr
   rcases hr with rfl|rfl
   ·exact⟨by simp only;omega,by simp only;omega,g1⟩
   ·exact⟨by simp only;omega,by simp only;omega,g0⟩⟩
 have HW:Hid _:=hW
 clear hW g0 g1 hB hsz
 go_enter func37,ntmps37
 go_wp2_with fail
 rw[HW.out]
 refine(DJ 1 (by decide) _).mono ?_
 rintro e W0 ⟨rfl,hb⟩
 have F0b:Hid _:=F0.out.later hb (nQ _)
 clear hb F0 HW
 have KA:Hid ((W0.alloc (.cells (Iv .i64 (aA 16)) 88)).heap[W0.heap.size]? =some (.cells (Iv .i64 (aA 16)) 88)):=hAN _ _
 go_wp2_with(refine wpPr rfl 88 _ _ rfl W0.heap.size (Iv .i64 (iM 1)) rfl rfl _ _ KA.out (hi.out _ rfl) (fC rfl) (aG _ _) (fun W1 hP=>sH ?_))
 refine aH ?_
 have F1a:=F0b.out.newRow hP
 obtain⟨g,eg⟩:∃x,x=W0.heap.size:=⟨_,rfl⟩
 have hg1:w.heap.size+1<g:=by rw[eg];exact(F0b.out.row _ mQ).2.1
 rw[←eg]at F1a⊢
 have F1:Hid _:=F1a
 clear F1a hP KA F0b eg
 go_wp2_with fail
 go_loopw [4] (fun i wr=>∃(j:Int) (m:Nat),j+m=254∧m≤255∧i=.int .i64 j∧Rw w [(g,Iv .i64 (nL a m),88),((w.heap.size+1),Iv .i64 (aA 16),88),(w.heap.size,Iv .i64 a,88)] wr) (fun i _=>(intOf i+1).toNat)
 case atStart=>exact⟨254,0,by decide,by decide,rfl,F1.out⟩
 case round=>
  obtain⟨j,m,hjm,hm,rfl,hF⟩:=hrel
  have F2:Hid _:=hF
  clear hF F1
  by_cases hj:0≤j
  ·have hj2:j≤254:=by omega
   have HP:Hid _:=HF.out m
   obtain⟨p,ep⟩:∃x,nL a m=x:=⟨_,rfl⟩
   have hpl:Hid (p.length=16):=by show _=_;rw[←ep];exact hlen.out m
   rw[ep]at F2 HP
   have EP:Hid _:=ep
   clear ep
   have G2:Hid _:=(F2.out.row _ mQ).2.2
   go_wp2_with(with_reducible refine aJ ?_;refine wpLr rfl 88 _ rfl g rfl _ (Iv .i64 p) _ _ G2.out underlying88 rfl (hi.out p hpl.out) ?_)
   refine(mJ p p HP.out HP.out _).mono ?_
   rintro e Z ⟨rfl,hb⟩
   have F3:Hid _:=F2.out.later hb (nQ _)
   clear hb F2 G2
   obtain⟨s,es⟩:∃x,fU p p=x:=⟨_,rfl⟩
   have HS:Hid (Dg s):=by show Dg s;rw[←es];exact(A7 p p HP.out HP.out).1
   have hsl:Hid (s.length=16):=HS.out.1
   rw[es]
   have ES:Hid _:=es
   clear es
   have G3:Hid _:=(F3.out.row _ mQ).2.2
   go_wp2_with(refine wpPr rfl 88 _ _ rfl g (Iv .i64 s) rfl rfl _ _ G3.out (hi.out s hsl.out) (by rw[aD,aD,hpl.out,hsl.out]) (aG _ _) (fun Z1 hP=>sH ?_))
   refine aH ?_
   have F4:Hid _:=Rw.put F3.out hP (fun r hr=>by simp only[List.mem_cons,nY,or_false]at hr;rcases hr with rfl|rfl<;>(simp only;omega))
   clear hP F3 G3
   by_cases hc:j=2∨j=4
   ·have e1:Hid (nL a (m+1)=s):=by show _=_;rw[ZU (by omega),EP.out,ES.out]
    rcases hc with rfl|rfl
    all_goals go_wp2
    all_goals go_roundw
    case rel=>exact⟨1,m+1,by omega,by omega,by go_num,by rw[e1.out];exact F4.out⟩
    case measure=>simp[intOf]
    case rel=>exact⟨3,m+1,by omega,by omega,by go_num,by rw[e1.out];exact F4.out⟩
    case measure=>simp[intOf]
   ·have e1:Hid (nL a (m+1)=fU s a):=by show _=_;rw[ZT (by omega),EP.out,ES.out]
    have hj3:(j=2)=False:=by simp;omega
    have hj4:(j=4)=False:=by simp;omega
    have hj5:(j !=2)=true:=by simp;omega
    have hj6:(j !=4)=true:=by simp;omega
    have G4:Hid _:=(F4.out.row _ mQ).2.2
    have G5:Hid _:=(F4.out.row _ (mC _ (mC _ mQ))).2.2
    go_wp2_with(with_reducible refine aJ ?_;first
     | refine wpLr rfl 88 _ rfl g rfl _ (Iv .i64 s) _ _ G4.out underlying88 rfl (hi.out s hsl.out) ?_
     | refine wpLr rfl 88 _ rfl w.heap.size rfl _ (Iv .i64 a) _ _ G5.out underlying88 rfl (hi.out a hal.out) ?_)
    refine(mJ s a HS.out HA.out _).mono ?_
    rintro e Z2 ⟨rfl,hb⟩
    have F5:Hid _:=F4.out.later hb (nQ _)
    clear hb F4 G4 G5
    obtain⟨t,et⟩:∃x,fU s a=x:=⟨_,rfl⟩
    have htl:Hid (t.length=16):=by show _=_;rw[←et];exact(A7 s a HS.out HA.out).1.1
    rw[et]at e1⊢
    clear et
    have G6:Hid _:=(F5.out.row _ mQ).2.2
    go_wp2_with(refine wpPr rfl 88 _ _ rfl g (Iv .i64 t) rfl rfl _ _ G6.out (hi.out t htl.out) (by rw[aD,aD,hsl.out,htl.out]) (aG _ _) (fun Z3 hP=>sH ?_))
    refine aH ?_
    have F6:Hid _:=Rw.put F5.out hP (fun r hr=>by simp only[List.mem_cons,nY,or_false]at hr;rcases hr with rfl|rfl<;>(simp only;omega))
    clear hP F5 G6
    go_wp2
    go_roundw
    case rel=>exact⟨j - 1,m+1,by omega,by omega,by go_num,by rw[e1.out];exact F6.out⟩
    case measure=>simp[intOf];omega
  ·obtain rfl:m=255:=by omega
   have G7:Hid _:=(F2.out.row _ mQ).2.2
   have G8:Hid _:=(F2.out.row _ (mC _ mQ)).2.2
   have B2:Hid _:=F2.out.bel
   have hrl:Hid _:=hlen.out 255
   clear F2 HF hlen
   obtain⟨r,er⟩:∃x,nL a 255=x:=⟨_,rfl⟩
   rw[er]at G7 hrl
   have ER:Hid _:=er
   clear er
   go_wp2_with(first
    | refine wpLr rfl 88 _ rfl g rfl _ (Iv .i64 r) _ _ G7.out underlying88 rfl (hi.out r hrl.out) ?_
    | refine wpPr rfl 88 _ _ rfl (w.heap.size+1) (Iv .i64 r) rfl rfl _ _ G8.out (hi.out r hrl.out) (fC hrl.out) (aG _ _) (fun W9 hP=>sH ?_))
   refine aH ?_
   have B9:=hP.below _ _ B2.out (by omega)
   have G9:=hP.here
   go_wp2
   exact bodyPost_ret (v:=.agg (Iv .i64 r)) (results_cell_row rfl _ _ _ _ (Iv .i64 r) _ _ rfl G9 underlying88 rfl (hi.out r hrl.out)) rfl ⟨by rw[ER.out],B9⟩
theorem vN {p q:Prop} {_:Decidable p} (h:p) (b:q):Ending.returned (.bool true)=.returned (.bool (decide p))∧q:=⟨congrArg Ending.returned (congrArg Value.bool (decide_eq_true h).symm),b⟩
theorem vM {p q:Prop} {_:Decidable p} (h:¬p) (b:q):Ending.returned (.bool false)=.returned (.bool (decide p))∧q:=⟨congrArg Ending.returned (congrArg Value.bool (decide_eq_false h).symm),b⟩
theorem acQ (a:LI) (ha:Dg a) (w:World):
 Calls prog 56 #[.agg (Iv .i64 a)] w fun e w'=>e=.returned (.bool (decide (dN a<pF)))∧Below w.heap.size w w':=by
 obtain⟨t0,t1,t2,t3,t4,t5,t6,t7,t8,t9,t10,t11,t12,t13,t14,t15,rfl⟩:=gE a ha.1
 have h0:0≤t0∧t0≤65535:=ha.2 0
 have h1:0≤t1∧t1≤65535:=ha.2 1
 have h2:0≤t2∧t2≤65535:=ha.2 2
 have h3:0≤t3∧t3≤65535:=ha.2 3
 have h4:0≤t4∧t4≤65535:=ha.2 4
 have h5:0≤t5∧t5≤65535:=ha.2 5
 have h6:0≤t6∧t6≤65535:=ha.2 6
 have h7:0≤t7∧t7≤65535:=ha.2 7
 have h8:0≤t8∧t8≤65535:=ha.2 8
 have h9:0≤t9∧t9≤65535:=ha.2 9
 have h10:0≤t10∧t10≤65535:=ha.2 10
 have h11:0≤t11∧t11≤65535:=ha.2 11
 have h12:0≤t12∧t12≤65535:=ha.2 12
 have h13:0≤t13∧t13≤65535:=ha.2 13
 have h14:0≤t14∧t14≤65535:=ha.2 14
 have h15:0≤t15∧t15≤65535:=ha.2 15
 have HV:Hid (dN [t0,t1,t2,t3,t4,t5,t6,t7,t8,t9,t10,t11,t12,t13,t14,t15]=1*t0+65536*t1+4294967296*t2+281474976710656*t3+18446744073709551616*t4+1208925819614629174706176*t5+79228162514264337593543950336*t6+5192296858534827628530496329220096*t7+340282366920938463463374607431768211456*t8+22300745198530623141535718272648361505980416*t9+1461501637330902918203684832716283019655932542976*t10+95780971304118053647396689196894323976171195136475136*t11+6277101735386680763835789423207666416102355444464034512896*t12+411376139330301510538742295639337626245683966408394965837152256*t13+26959946667150639794667015087019630673637144422540572481103610249216*t14+1766847064778384329583297500742918515827483896875618958121606201292619776*t15):=by
  show _=_
  simp only[dN]
  omega
 have hrow:Iv .i64 [t0,t1,t2,t3,t4,t5,t6,t7,t8,t9,t10,t11,t12,t13,t14,t15]=#[.int .i64 t0,.int .i64 t1,.int .i64 t2,.int .i64 t3,.int .i64 t4,.int .i64 t5,.int .i64 t6,.int .i64 t7,.int .i64 t8,.int .i64 t9,.int .i64 t10,.int .i64 t11,.int .i64 t12,.int .i64 t13,.int .i64 t14,.int .i64 t15]:=rfl
 rw[HV.out,hrow]
 clear HV ha hrow
 have B1:Hid (Below w.heap.size w (w.alloc (.cells #[.int .i64 t0,.int .i64 t1,.int .i64 t2,.int .i64 t3,.int .i64 t4,.int .i64 t5,.int .i64 t6,.int .i64 t7,.int .i64 t8,.int .i64 t9,.int .i64 t10,.int .i64 t11,.int .i64 t12,.int .i64 t13,.int .i64 t14,.int .i64 t15] 88))):=(Below.refl _ _).alloc (nQ _) _
 by_cases g15:t15=32767
 ·subst g15
  go_enter func56,ntmps56
  go_wp2
  refine wp_loop_rounds 15 ?_
  rw[rdS]
  by_cases g14:t14=65535
  ·subst g14
   go_wp2_with fail
   rw[rdS]
   by_cases g13:t13=65535
   ·subst g13
    go_wp2_with fail
    rw[rdS]
    by_cases g12:t12=65535
    ·subst g12
     go_wp2_with fail
     rw[rdS]
     by_cases g11:t11=65535
     ·subst g11
      go_wp2_with fail
      rw[rdS]
      by_cases g10:t10=65535
      ·subst g10
       go_wp2_with fail
       rw[rdS]
       by_cases g9:t9=65535
       ·subst g9
        go_wp2_with fail
        rw[rdS]
        by_cases g8:t8=65535
        ·subst g8
         go_wp2_with fail
         rw[rdS]
         by_cases g7:t7=65535
         ·subst g7
          go_wp2_with fail
          rw[rdS]
          by_cases g6:t6=65535
          ·subst g6
           go_wp2_with fail
           rw[rdS]
           by_cases g5:t5=65535
           ·subst g5
            go_wp2_with fail
            rw[rdS]
            by_cases g4:t4=65535
            ·subst g4
             go_wp2_with fail
             rw[rdS]
             by_cases g3:t3=65535
             ·subst g3
              go_wp2_with fail
              rw[rdS]
              by_cases g2:t2=65535
              ·subst g2
               go_wp2_with fail
               rw[rdS]
               by_cases g1:t1=65535
               ·subst g1
                go_wp2_with fail
                rw[rdS]
                by_cases g0:t0<65517
                ·have g0i:t0<65517:=g0
                 go_wp2
                 go_ret
                 first|exact vN (by unfold pF;omega) B1.out|exact vM (by unfold pF;omega) B1.out
                ·have g0i:(t0<65517)=False:=eq_false g0
                 go_wp2
                 go_ret
                 first|exact vN (by unfold pF;omega) B1.out|exact vM (by unfold pF;omega) B1.out
               ·have g1i:(t1=65535)=False:=eq_false g1
                go_wp2
                go_ret
                first|exact vN (by unfold pF;omega) B1.out|exact vM (by unfold pF;omega) B1.out
              ·have g2i:(t2=65535)=False:=eq_false g2
               go_wp2
               go_ret
               first|exact vN (by unfold pF;omega) B1.out|exact vM (by unfold pF;omega) B1.out
             ·have g3i:(t3=65535)=False:=eq_false g3
              go_wp2
              go_ret
              first|exact vN (by unfold pF;omega) B1.out|exact vM (by unfold pF;omega) B1.out
            ·have g4i:(t4=65535)=False:=eq_false g4
             go_wp2
             go_ret
             first|exact vN (by unfold pF;omega) B1.out|exact vM (by unfold pF;omega) B1.out
           ·have g5i:(t5=65535)=False:=eq_false g5
            go_wp2
            go_ret
            first|exact vN (by unfold pF;omega) B1.out|exact vM (by unfold pF;omega) B1.out
          ·have g6i:(t6=65535)=False:=eq_false g6
           go_wp2
           go_ret
           first|exact vN (by unfold pF;omega) B1.out|exact vM (by unfold pF;omega) B1.out
         ·have g7i:(t7=65535)=False:=eq_false g7
          go_wp2
          go_ret
          first|exact vN (by unfold pF;omega) B1.out|exact vM (by unfold pF;omega) B1.out
        ·have g8i:(t8=65535)=False:=eq_false g8
         go_wp2
         go_ret
         first|exact vN (by unfold pF;omega) B1.out|exact vM (by unfold pF;omega) B1.out
       ·have g9i:(t9=65535)=False:=eq_false g9
        go_wp2
        go_ret
        first|exact vN (by unfold pF;omega) B1.out|exact vM (by unfold pF;omega) B1.out
      ·have g10i:(t10=65535)=False:=eq_false g10
       go_wp2
       go_ret
       first|exact vN (by unfold pF;omega) B1.out|exact vM (by unfold pF;omega) B1.out
     ·have g11i:(t11=65535)=False:=eq_false g11
      go_wp2
      go_ret
      first|exact vN (by unfold pF;omega) B1.out|exact vM (by unfold pF;omega) B1.out
    ·have g12i:(t12=65535)=False:=eq_false g12
     go_wp2
     go_ret
     first|exact vN (by unfold pF;omega) B1.out|exact vM (by unfold pF;omega) B1.out
   ·have g13i:(t13=65535)=False:=eq_false g13
    go_wp2
    go_ret
    first|exact vN (by unfold pF;omega) B1.out|exact vM (by unfold pF;omega) B1.out
  ·have g14i:(t14=65535)=False:=eq_false g14
   go_wp2
   go_ret
   first|exact vN (by unfold pF;omega) B1.out|exact vM (by unfold pF;omega) B1.out
 ·have g15i:(t15=32767)=False:=eq_false g15
  by_cases gl:t15<32767
  ·go_enter func56,ntmps56
   go_wp2
   go_ret
   first|exact vN (by unfold pF;omega) B1.out|exact vM (by unfold pF;omega) B1.out
  ·have gli:(t15<32767)=False:=eq_false gl
   go_enter func56,ntmps56
   go_wp2
   go_ret
   first|exact vN (by unfold pF;omega) B1.out|exact vM (by unfold pF;omega) B1.out
set_option linter.unusedSimpArgs false
def yS (k:Nat):Int:=if k=15 then 32767 else if k=0 then 65517 else 65535
def uG (a:LI):Nat→Int
 | 0=>0
 | k+1=>if a.getD k 0 - yS k - uG a k<0 then 1 else 0
def rT (a:LI) (k:Nat):Int:=if a.getD k 0 - yS k - uG a k<0 then a.getD k 0 - yS k - uG a k+65536 else a.getD k 0 - yS k - uG a k
def aa5 (a:LI):LI:=pF9 a 0 (rT a) 16
theorem GX (a:LI) (k:Nat):uG a (k+1)=if a.getD k 0 - yS k - uG a k<0 then 1 else 0:=rfl
theorem TJ (a:LI):∀k,0≤uG a k∧uG a k≤1
 | 0=>by unfold uG;omega
 | k+1=>by rw[GX];split<;>omega
theorem iR (a:LI) (k:Nat):a.getD k 0 - yS k - uG a k=rT a k - 65536*uG a (k+1):=by
 rw[GX]
 unfold rT
 split<;>omega
theorem lR (a:LI) (k:Nat) (h:0≤a.getD k 0∧a.getD k 0≤65535):0≤rT a k∧rT a k≤65535:=by
 have h1:=TJ a k
 have h2:0≤yS k∧yS k≤65535:=by unfold yS;split<;>(try split)<;>omega
 unfold rT
 split<;>omega
theorem aa6 (l:LI) (h:l.length=16):aa5 l=[rT l 0,rT l 1,rT l 2,rT l 3,rT l 4,rT l 5,rT l 6,rT l 7,rT l 8,rT l 9,rT l 10,rT l 11,rT l 12,rT l 13,rT l 14,rT l 15]:=by
 obtain⟨t0,t1,t2,t3,t4,t5,t6,t7,t8,t9,t10,t11,t12,t13,t14,t15,rfl⟩:=gE l h
 rfl
theorem afM (l:LI) (h:Dg l) (hp:pF≤dN l):Dg (aa5 l)∧dN (aa5 l)=dN l - pF:=by
 have e0:=iR l 0
 have f0:=lR l 0 (h.2 0)
 have e1:=iR l 1
 have f1:=lR l 1 (h.2 1)
 have e2:=iR l 2
 have f2:=lR l 2 (h.2 2)
 have e3:=iR l 3
 have f3:=lR l 3 (h.2 3)
 have e4:=iR l 4
 have f4:=lR l 4 (h.2 4)
 have e5:=iR l 5
 have f5:=lR l 5 (h.2 5)
 have e6:=iR l 6
 have f6:=lR l 6 (h.2 6)
 have e7:=iR l 7
 have f7:=lR l 7 (h.2 7)
 have e8:=iR l 8
 have f8:=lR l 8 (h.2 8)
 have e9:=iR l 9
 have f9:=lR l 9 (h.2 9)
 have e10:=iR l 10
 have f10:=lR l 10 (h.2 10)
 have e11:=iR l 11
 have f11:=lR l 11 (h.2 11)
 have e12:=iR l 12
 have f12:=lR l 12 (h.2 12)
 have e13:=iR l 13
 have f13:=lR l 13 (h.2 13)
 have e14:=iR l 14
 have f14:=lR l 14 (h.2 14)
 have e15:=iR l 15
 have f15:=lR l 15 (h.2 15)
 have b0:uG l 0=0:=rfl
 have b16:=TJ l 16
 have hs:=aa6 l h.1
 have hm0:yS 0=65517:=rfl
 have hm15:yS 15=32767:=rfl
 have hm1:yS 1=65535:=rfl
 have hm2:yS 2=65535:=rfl
 have hm3:yS 3=65535:=rfl
 have hm4:yS 4=65535:=rfl
 have hm5:yS 5=65535:=rfl
 have hm6:yS 6=65535:=rfl
 have hm7:yS 7=65535:=rfl
 have hm8:yS 8=65535:=rfl
 have hm9:yS 9=65535:=rfl
 have hm10:yS 10=65535:=rfl
 have hm11:yS 11=65535:=rfl
 have hm12:yS 12=65535:=rfl
 have hm13:yS 13=65535:=rfl
 have hm14:yS 14=65535:=rfl
 rw[hs]
 obtain⟨t0,t1,t2,t3,t4,t5,t6,t7,t8,t9,t10,t11,t12,t13,t14,t15,rfl⟩:=gE l h.1
 simp only[List.getD_cons_zero,List.getD_cons_succ]at e0 e1 e2 e3 e4 e5 e6 e7 e8 e9 e10 e11 e12 e13 e14 e15
 simp only[dN]at hp⊢
 generalize[t0,t1,t2,t3,t4,t5,t6,t7,t8,t9,t10,t11,t12,t13,t14,t15]=T at*
 generalize rT T 0=d0 at*
 generalize rT T 1=d1 at*
 generalize rT T 2=d2 at*
 generalize rT T 3=d3 at*
 generalize rT T 4=d4 at*
 generalize rT T 5=d5 at*
 generalize rT T 6=d6 at*
 generalize rT T 7=d7 at*
 generalize rT T 8=d8 at*
 generalize rT T 9=d9 at*
 generalize rT T 10=d10 at*
 generalize rT T 11=d11 at*
 generalize rT T 12=d12 at*
 generalize rT T 13=d13 at*
 generalize rT T 14=d14 at*
 generalize rT T 15=d15 at*
 generalize uG T 0=c0 at*
 generalize uG T 1=c1 at*
 generalize uG T 2=c2 at*
 generalize uG T 3=c3 at*
 generalize uG T 4=c4 at*
 generalize uG T 5=c5 at*
 generalize uG T 6=c6 at*
 generalize uG T 7=c7 at*
 generalize uG T 8=c8 at*
 generalize uG T 9=c9 at*
 generalize uG T 10=c10 at*
 generalize uG T 11=c11 at*
 generalize uG T 12=c12 at*
 generalize uG T 13=c13 at*
 generalize uG T 14=c14 at*
 generalize uG T 15=c15 at*
 generalize uG T 16=c16 at*
 have hb:c16=0:=by unfold pF at hp;omega
 refine⟨⟨rfl,fun i=>?_⟩,by unfold pF;omega⟩
 match i with
 | 0|1|2|3|4|5|6|7|8|9|10|11|12|13|14|15=>simp only[List.getD_cons_zero,List.getD_cons_succ];omega
 | i+16=>simp only[List.getD_cons_succ,List.getD_nil];omega
theorem ab2 (l:LI) (h:Dg l):0≤dN l∧dN l<115792089237316195423570985008687907853269984665640564039457584007913129639936:=by
 have:=af7 l h.1 65535 h.2
 omega
def pE (l:LI) (i:Nat):Int:=if i%2=0 then l.getD (i / 2) 0%256 else l.getD (i / 2) 0 / 256
def ahT:LI→LI
 | []=>[]
 | d::r=>d%256::d / 256::ahT r
theorem XQ:∀l:LI,(∀i,0≤l.getD i 0∧l.getD i 0≤65535)→ahT l=JW (dN l) (2*l.length)
 | [],_=>rfl
 | d::r,h=>by
   have ih:=XQ r (fun i=>by have:=h (i+1);simpa using this)
   have h0:0≤d∧d≤65535:=by have:=h 0;simpa using this
   have ha:=uV d (dN r) 2 (2*r.length) h0.1 (by have:(256:Int)^2=65536:=by decide
                                                rw[this];omega)
   have e1:JW d 2=[d%256,d / 256]:=by
    show[d / 256^0%256,d / 256^1%256]=_
    have p0:(256:Int)^0=1:=by decide
    have p1:(256:Int)^1=256:=by decide
    rw[p0,p1,Int.ediv_one,show d / 256%256=d / 256 by omega]
   have e2:(256:Int)^2=65536:=by decide
   rw[e1,e2]at ha
   have e3:2*(d::r).length=2+2*r.length:=by simp;omega
   rw[e3,dN,ha,ahT,ih]
   rfl
theorem acY (l:LI) (h:Dg l):pF9 (aA 32) 0 (pE l) 32=JW (dN l) 32:=by
 have h1:=XQ l h.2
 rw[h.1]at h1
 obtain⟨t0,t1,t2,t3,t4,t5,t6,t7,t8,t9,t10,t11,t12,t13,t14,t15,rfl⟩:=gE l h.1
 exact h1
theorem qT {P:Program} (t e:TypeId) (n:Nat) (k:IntKind) (l:LI) (i:Nat) (ht:P.underlying t=some (.array n e)) (he:P.underlying e=some (.int k)) (hs:(P.info? e).map (·.size)=some 1) (hl:l.length=n) (hi:i<n) (w:World):
 (Instr.index t (.agg (Iv k l)) (.int .i64 (i:Int))).run P w=.ok (.int k (l.getD i 0)) w:=by
 obtain⟨inf,hinf,hsz⟩:∃inf,P.info? e=some inf∧inf.size=1:=by
  cases h:P.info? e with
  | none=>rw[h]at hs;cases hs
  | some inf=>rw[h]at hs;exact⟨inf,rfl,by simpa using hs⟩
 have hc:=dG k l i (by omega)
 have hg:l.getD i 0=l[i]'(by omega):=by simp[show i<l.length by omega]
 rw[hg]
 simp[Instr.index,run_underlying ht,asIntOf,go_sem,hi,part,isAgg,run_underlying he,sizeOf,typeInfo,hinf,hsz,hc]
def ac9 (W:World) (b:Nat):Nat:=match W.heap[b]? with
 | some (.cells cs _ _)=>(dN (cs.toList.map intOf)).toNat
 | _=>0
theorem XZ {W:World} {b:Nat} {d:LI} {t:TypeId} (h:W.heap[b]? =some (.cells (Iv .i64 d) t)):ac9 W b=(dN d).toNat:=by
 unfold ac9
 rw[h]
 simp[Iv,intOf,Function.comp_def]
theorem abF (a:LI) (ha:Dg a) (w:World):
 Calls prog 35 #[.agg (Iv .i64 a)] w fun e w'=>e=.returned (.agg (Iv .u8 (JW (dN a%pF) 32)))∧Below w.heap.size w w':=by
 have hz32:=yE
 have hn:=ab2 a ha
 have HRl0:=zM (dN a%pF) 32
 obtain⟨R,eR⟩:∃x,JW (dN a%pF) 32=x:=⟨_,rfl⟩
 rw[eR]at HRl0
 have HRl:Hid _:=HRl0
 have HER:Hid _:=eR
 clear eR HRl0
 have F0:Hid (Rw w [(w.heap.size,Iv .i64 (a),88),(w.heap.size+1,Iv .u8 (aA 32),25)] ((w.alloc (.cells (Iv .i64 a) 88)).alloc (.cells (Iv .u8 (aA 32)) 25))):=by
  have h:=((Rw.start w).alloc (Iv .i64 a) 88).alloc (Iv .u8 (aA 32)) 25
  simp only[wU]at h
  exact h.sub (fun r hr=>by simp only[List.mem_cons,nY,or_false]at hr⊢;exact hr.symm)
 have H0:Hid (Dg a):=ha
 clear ha
 go_enter func35,ntmps35
 go_wp2_with fail
 obtain⟨X0,eX0⟩:∃x,x=(w.alloc (.cells (Iv .i64 a) 88)).alloc (.cells (Iv .u8 (aA 32)) 25):=⟨_,rfl⟩
 rw[←eX0]at F0⊢
 clear eX0
 go_loopw [3] (fun _ wr=>∃d:LI,Dg d∧dN d%pF=dN a%pF∧Rw w [(w.heap.size,Iv .i64 d,88),(w.heap.size+1,Iv .u8 (aA 32),25)] wr) (fun _ wr=>ac9 wr w.heap.size)
 case atStart=>exact⟨a,H0.out,rfl,F0.out⟩
 case round=>
  obtain⟨d,hd,hm,hF⟩:=hrel
  obtain⟨Z,rfl⟩:∃X,X=wr:=⟨_,rfl⟩
  have H1:Hid (Dg d):=hd
  have F1:Hid _:=hF
  clear hd hF F0 H0
  have HA0:Hid _:=(F1.out.row _ mQ).2.2
  go_wp2_with(refine wpLr rfl 88 _ rfl w.heap.size rfl _ (Iv .i64 d) _ _ HA0.out underlying88 rfl (aX H1.out.1) ?_)
  refine(acQ d H1.out _).mono ?_
  rintro e Q0 ⟨rfl,hb⟩
  have FQ0:Hid _:=F1.out.later hb (nQ _)
  clear hb HA0
  by_cases hlt:dN d<pF
  ·rw[decide_eq_true hlt]
   have HV:Hid _:=((acY _ H1.out).trans (congrArg (fun z=>JW z 32) ((Int.emod_eq_of_lt (ab2 d H1.out).1 hlt).symm.trans hm))).trans HER.out
   have HDl:Hid (Dg d):=H1.out
   have F9:Hid _:=FQ0.out
   clear FQ0
   obtain⟨dl,edl⟩:∃x,d=x:=⟨_,rfl⟩
   rw[edl]at HV HDl F9
   clear edl
   have hlt9:w.heap.size+1<Q0.heap.size:=(F9.out.row _ (mC _ mQ)).2.1
   have KA:Hid ((Q0.alloc (.cells (Iv .u8 (aA 32)) 25)).heap[Q0.heap.size]? =some (.cells (Iv .u8 (aA 32)) 25)):=hAN _ _
   go_wp2_with(refine wpPr rfl 25 _ _ rfl Q0.heap.size (Iv .u8 (aA 32)) rfl rfl _ _ KA.out XG rfl (aG _ _) (fun Y1 hP=>sH ?_))
   refine aH ?_
   have F10:=F9.out.newRow hP
   obtain⟨g7,eg7⟩:∃x,x=Q0.heap.size:=⟨_,rfl⟩
   rw[←eg7]at F10 hlt9⊢
   have F11:Hid (Rw w [(g7,Iv .u8 (pF9 (aA 32) 0 (pE dl) (2*0)),25),(w.heap.size,Iv .i64 dl,88),(w.heap.size+1,Iv .u8 (aA 32),25)] Y1):=by rw[Nat.mul_zero,cR];exact F10
   clear F10 hP eg7 KA F9
   have HA:Hid _:=(F11.out.row _ (mC _ mQ)).2.2
   go_wp2_with(refine wpLr rfl 88 _ rfl w.heap.size rfl _ (Iv .i64 dl) _ _ HA.out underlying88 rfl (aX HDl.out.1) ?_)
   go_loopw [37] (fun x wr=>∃k:Nat,k≤16∧x=.int .i64 k∧Rw w [(g7,Iv .u8 (pF9 (aA 32) 0 (pE dl) (2*k)),25),(w.heap.size,Iv .i64 dl,88),(w.heap.size+1,Iv .u8 (aA 32),25)] wr) (fun x _=>16 - (intOf x).toNat)
   case atStart=>exact⟨0,Nat.zero_le _,rfl,F11.out⟩
   case round=>
    obtain⟨k,hk16,rfl,hF⟩:=hrel
    have F12:Hid _:=hF
    clear hF F11 HA
    by_cases hk:k<16
    ·have hki:(k:Int)<16:=by omega
     have hdk:=HDl.out.2 k
     have hix:∀W,(Instr.index 88 (.agg (Iv .i64 dl)) (.int .i64 (k:Int))).run prog W=.ok (.int .i64 (dl.getD k 0)) W:=qT 88 3 16 .i64 dl k underlying88 underlying3 (by kernel_rfl) HDl.out.1 hk
     have HZ0:Hid ((aA 32).length=32):=rfl
     have HS1:Hid ((pF9 (aA 32) 0 (pE dl) (2*k)).set (2*k) (dl.getD k 0%256)=pF9 (aA 32) 0 (pE dl) (2*k+1)):=by
      have h1:=cP (aA 32) 0 (pE dl) (2*k) (by rw[HZ0.out];omega)
      have h2:pE dl (2*k)=dl.getD k 0%256:=by unfold pE;rw[if_pos (by omega),show 2*k / 2=k by omega]
      rw[Nat.zero_add,h2]at h1
      exact h1
     have HS2:Hid ((pF9 (aA 32) 0 (pE dl) (2*k+1)).set (2*k+1) (dl.getD k 0 / 256)=pF9 (aA 32) 0 (pE dl) (2*(k+1))):=by
      have h1:=cP (aA 32) 0 (pE dl) (2*k+1) (by rw[HZ0.out];omega)
      have h2:pE dl (2*k+1)=dl.getD k 0 / 256:=by unfold pE;rw[if_neg (by omega),show(2*k+1) / 2=k by omega]
      rw[Nat.zero_add,h2]at h1
      exact h1
     obtain⟨y,ed⟩:∃x,dl.getD k 0=x:=⟨_,rfl⟩
     rw[ed]at hdk hix HS1 HS2
     clear ed
     have hc1:Hid ((pF9 (aA 32) 0 (pE dl) (2*k)).length=32):=by show _=_;rw[gI _ _ _ (by rw[HZ0.out];omega)];exact HZ0.out
     have hc2:Hid ((pF9 (aA 32) 0 (pE dl) (2*k+1)).length=32):=by show _=_;rw[gI _ _ _ (by rw[HZ0.out];omega)];exact HZ0.out
     have hw1:IntKind.u8.wrap (y%256)=y%256:=by rw[IntKind.wrap_u8];omega
     have hw2:IntKind.u8.wrap (y / 256)=y / 256:=by rw[IntKind.wrap_u8];omega
     have hb1:((2*k:Nat):Int)=2*(k:Int):=by omega
     have hb2:((2*k+1:Nat):Int)=2*(k:Int)+1:=by omega
     obtain⟨v1,hv1⟩:∃v,wr.cell? ⟨g7,2*k,none⟩=some v:=⟨_,aE.cell (show aE wr g7 .u8 _ _ from(F12.out.row _ mQ).2.2) (2*k) (by rw[hc1.out];omega)⟩
     have hf1:wr.frozen? ⟨g7,2*k,none⟩=false:=frozen_of_row _ _ _ _ _ (F12.out.row _ mQ).2.2
     have F13:Hid (Rw w [(g7,Iv .u8 (pF9 (aA 32) 0 (pE dl) (2*k+1)),25),(w.heap.size,Iv .i64 dl,88),(w.heap.size+1,Iv .u8 (aA 32),25)] (wr.setCell ⟨g7,2*k,none⟩ (.int .u8 (y%256)))):=by
      have hP:=jQ (F12.out.row _ mQ).2.2 (2*k) (.int .u8 (y%256))
      simp only at hP
      rw[bZ,HS1.out]at hP
      exact Rw.put F12.out hP (fun r hr=>by simp only[List.mem_cons,nY,or_false]at hr;rcases hr with rfl|rfl<;>(simp only;omega))
     obtain⟨v2,hv2⟩:∃v,(wr.setCell ⟨g7,2*k,none⟩ (.int .u8 (y%256))).cell? ⟨g7,2*k+1,none⟩=some v:=⟨_,aE.cell (show aE _ g7 .u8 _ _ from(F13.out.row _ mQ).2.2) (2*k+1) (by rw[hc2.out];omega)⟩
     have hf2:(wr.setCell ⟨g7,2*k,none⟩ (.int .u8 (y%256))).frozen? ⟨g7,2*k+1,none⟩=false:=frozen_of_row _ _ _ _ _ (F13.out.row _ mQ).2.2
     have F14:Hid (Rw w [(g7,Iv .u8 (pF9 (aA 32) 0 (pE dl) (2*(k+1))),25),(w.heap.size,Iv .i64 dl,88),(w.heap.size+1,Iv .u8 (aA 32),25)] ((wr.setCell ⟨g7,2*k,none⟩ (.int .u8 (y%256))).setCell ⟨g7,2*k+1,none⟩ (.int .u8 (y / 256)))):=by
      have hP:=jQ (F13.out.row _ mQ).2.2 (2*k+1) (.int .u8 (y / 256))
      simp only at hP
      rw[bZ,HS2.out]at hP
      exact Rw.put F13.out hP (fun r hr=>by simp only[List.mem_cons,nY,or_false]at hr;rcases hr with rfl|rfl<;>(simp only;omega))
     clear F12 F13
     go_wp2
     go_roundw
     case rel=>exact⟨k+1,by omega,by go_num,F14.out⟩
     case measure=>simp[intOf];omega
    ·obtain rfl:k=16:=by omega
     have F15:=F12.out
     rw[show 2*16=32 from rfl,HV.out]at F15
     have HA:Hid _:=(F15.row _ mQ).2.2
     have HZ:Hid _:=(F15.row _ (mC _ (mC _ mQ))).2.2
     have B15:Hid _:=F15.bel
     clear F12 F15
     go_wp2_with(first
      | refine wpLr rfl 25 _ rfl g7 rfl _ (Iv .u8 R) _ _ HA.out underlying25 rfl (eN HRl.out) ?_
      | refine wpPr rfl 25 _ _ rfl (w.heap.size+1) (Iv .u8 R) rfl rfl _ _ HZ.out (eN HRl.out) (yD HRl.out) (aG _ _) (fun W9 hP=>sH ?_))
     refine aH ?_
     have B9:=hP.below _ _ B15.out (by omega)
     have G9:=hP.here
     go_wp2
     exact bodyPost_ret (v:=.agg (Iv .u8 R)) (results_cell_row rfl _ _ _ _ (Iv .u8 R) _ _ rfl G9 underlying25 rfl (eN HRl.out)) rfl ⟨by rw[HER.out],B9⟩
  ·have hok0:=afM d H1.out (by omega)
   have H2:Hid (Dg (aa5 d)):=hok0.1
   have hv1:=hok0.2
   clear hok0
   rw[decide_eq_false hlt]
   go_wp2_with fail
   go_loopw [3,13] (fun bo x wr=>∃k:Nat,k≤16∧x=.int .i64 k∧bo=.int .i64 (uG d k)∧Rw w [(w.heap.size,Iv .i64 (pF9 d 0 (rT d) k),88),(w.heap.size+1,Iv .u8 (aA 32),25)] wr) (fun _ x _=>16 - (intOf x).toNat)
   case atStart=>exact⟨0,Nat.zero_le _,rfl,rfl,by rw[cR];exact FQ0.out⟩
   case round=>
    obtain⟨k,hk16,rfl,rfl,hF⟩:=hrel
    have F2:Hid _:=hF
    clear hF FQ0
    by_cases hk:k<16
    ·have hki:(k:Int)<16:=by omega
     have hbk:=TJ d k
     have hdk:=H1.out.2 k
     have hll:Hid (d.length=16):=H1.out.1
     have hc:wr.cell? ⟨w.heap.size,k,none⟩=some (.int .i64 (d.getD k 0)):=by
      have h1:=aE.cell (show aE wr w.heap.size .i64 _ _ from(F2.out.row _ mQ).2.2) k (by rw[gI _ _ _ (by have:=hll.out;omega),hll.out];exact hk)
      rw[JI _ _ k (by have:=hll.out;omega)]at h1
      exact h1
     have hf:wr.frozen? ⟨w.heap.size,k,none⟩=false:=frozen_of_row _ _ _ _ _ (F2.out.row _ mQ).2.2
     have HB1:Hid _:=GX d k
     have HE1:Hid (rT d k=if d.getD k 0 - yS k - uG d k<0 then d.getD k 0 - yS k - uG d k+65536 else d.getD k 0 - yS k - uG d k):=rfl
     have HS:Hid (∀x,x=rT d k→(pF9 d 0 (rT d) k).set k x=pF9 d 0 (rT d) (k+1)):=fun x hd=>by
      subst hd
      have h1:=cP d 0 (rT d) k (by have:=hll.out;omega)
      rw[Nat.zero_add]at h1
      exact h1
     have HF3:Hid (∀x,x=rT d k→Rw w [(w.heap.size,Iv .i64 (pF9 d 0 (rT d) (k+1)),88),(w.heap.size+1,Iv .u8 (aA 32),25)] (wr.setCell ⟨w.heap.size,k,none⟩ (.int .i64 x))):=fun x hd=>by
      have hP:=jQ (F2.out.row _ mQ).2.2 k (.int .i64 x)
      simp only at hP
      rw[bZ,HS.out x hd]at hP
      exact Rw.put F2.out hP (fun r hr=>by rw[mU.1 hr];show w.heap.size+1≠w.heap.size;omega)
     generalize uG d k=bk at*
     generalize d.getD k 0=z at*
     clear F2 HS
     have hm3:(k=0∧yS k=65517)∨(k=15∧yS k=32767)∨(k≠0∧k≠15∧yS k=65535):=by
      unfold yS
      by_cases h15:k=15
      ·rw[if_pos h15];omega
      ·rw[if_neg h15]
       by_cases h00:k=0
       ·rw[if_pos h00];omega
       ·rw[if_neg h00];omega
     rcases hm3 with ⟨rfl,hm⟩|⟨rfl,hm⟩|⟨hk0,hk15,hm⟩
     ·rw[hm]at HB1 HE1
      clear hm
      by_cases hneg:z - 65517 - bk<0
      ·have hnegi:=hneg
       have F3:Hid _:=HF3.out (z - 65517 - bk+65536) (by rw[HE1.out,if_pos hneg])
       have HB2:Hid (uG d (0+1)=1):=by show _=_;rw[HB1.out,if_pos hneg]
       clear HF3 HB1 HE1
       go_wp2
       go_roundw
       case rel=>exact⟨0+1,by omega,by go_num,by rw[HB2.out],F3.out⟩
       case measure=>simp[intOf]
      ·have hnegi:(z - 65517 - bk<0)=False:=eq_false hneg
       have F3:Hid _:=HF3.out (z - 65517 - bk) (by rw[HE1.out,if_neg hneg])
       have HB2:Hid (uG d (0+1)=0):=by show _=_;rw[HB1.out,if_neg hneg]
       clear HF3 HB1 HE1
       go_wp2
       go_roundw
       case rel=>exact⟨0+1,by omega,by go_num,by rw[HB2.out],F3.out⟩
       case measure=>simp[intOf]
     ·rw[hm]at HB1 HE1
      clear hm
      by_cases hneg:z - 32767 - bk<0
      ·have hnegi:=hneg
       have F3:Hid _:=HF3.out (z - 32767 - bk+65536) (by rw[HE1.out,if_pos hneg])
       have HB2:Hid (uG d (15+1)=1):=by show _=_;rw[HB1.out,if_pos hneg]
       clear HF3 HB1 HE1
       go_wp2
       go_roundw
       case rel=>exact⟨15+1,by omega,by go_num,by rw[HB2.out],F3.out⟩
       case measure=>simp[intOf]
      ·have hnegi:(z - 32767 - bk<0)=False:=eq_false hneg
       have F3:Hid _:=HF3.out (z - 32767 - bk) (by rw[HE1.out,if_neg hneg])
       have HB2:Hid (uG d (15+1)=0):=by show _=_;rw[HB1.out,if_neg hneg]
       clear HF3 HB1 HE1
       go_wp2
       go_roundw
       case rel=>exact⟨15+1,by omega,by go_num,by rw[HB2.out],F3.out⟩
       case measure=>simp[intOf]
     ·rw[hm]at HB1 HE1
      clear hm
      have hk0i:((k:Int)=0)=False:=by simp;omega
      have hk15i:((k:Int)=15)=False:=by simp;omega
      by_cases hneg:z - 65535 - bk<0
      ·have hnegi:=hneg
       have F3:Hid _:=HF3.out (z - 65535 - bk+65536) (by rw[HE1.out,if_pos hneg])
       have HB2:Hid (uG d (k+1)=1):=by show _=_;rw[HB1.out,if_pos hneg]
       clear HF3 HB1 HE1
       go_wp2
       go_roundw
       case rel=>exact⟨k+1,by omega,by go_num,by rw[HB2.out],F3.out⟩
       case measure=>simp[intOf];omega
      ·have hnegi:(z - 65535 - bk<0)=False:=eq_false hneg
       have F3:Hid _:=HF3.out (z - 65535 - bk) (by rw[HE1.out,if_neg hneg])
       have HB2:Hid (uG d (k+1)=0):=by show _=_;rw[HB1.out,if_neg hneg]
       clear HF3 HB1 HE1
       go_wp2
       go_roundw
       case rel=>exact⟨k+1,by omega,by go_num,by rw[HB2.out],F3.out⟩
       case measure=>simp[intOf];omega
    ·obtain rfl:k=16:=by omega
     have F3:Hid (Rw w [(w.heap.size,Iv .i64 (aa5 d),88),(w.heap.size+1,Iv .u8 (aA 32),25)] wr):=F2.out
     have M1:Hid (ac9 wr w.heap.size<ac9 Z w.heap.size):=by
      show _<_
      rw[XZ (F3.out.row _ mQ).2.2,XZ (F1.out.row _ mQ).2.2,hv1]
      have:=(ab2 d H1.out).1
      unfold pF at*
      omega
     clear F2
     go_wp2_with fail
     go_roundw
     case rel=>exact⟨aa5 d,H2.out,by rw[hv1,Int.sub_emod_right];exact hm,F3.out⟩
     case measure=>exact M1.out
theorem dQ {P:Program} {fn:Func} {p q:Tmp} {ty:TypeId} (h:fn.results=#[.cell p ty,.tmp q]) (tmps:Array Value) (w:World) (g:Nat) (t:TypeId) (cs:Array Value) (d:TypeDesc) (v:Value)
 (hp:tmps.getD p undef=.pointer (some ⟨g,0,none⟩)) (hq:tmps.getD q undef=v) (hg:w.heap[g]? =some (.cells cs t))
 (hu:P.underlying ty=some d) (hd:(match d with| .struct _| .array _ _=>true|_=>false)=true) (hi:(P.info? ty).map (·.size)=some cs.size):
 (results fn tmps).run P w=.ok (.tuple #[.agg cs,v]) w:=by
 have hp':tmps[p]?.getD undef=.pointer (some ⟨g,0,none⟩):=by simpa using hp
 have hq':tmps[q]?.getD undef=v:=by simpa using hq
 simp[results,h,hp',hq',asAddr,run_loadVar_row w g t ty cs _ d hg hu hd hi]
theorem aC.put {l:LI} (h:aC l) (i:Nat) (v:Int) (hv:0≤v∧v≤255):aC (l.set i v):=by
 intro j
 have hj:=h j
 rw[List.getD_eq_getElem?_getD,List.getElem?_set]
 rw[List.getD_eq_getElem?_getD]at hj
 split
 ·split
  ·exact hv
  ·simp
 ·exact hj
def uY (p:LI):LI:=p.set 31 (p.getD 31 0%128)
theorem uZ (p:LI):(uY p).length=p.length:=by simp[uY]
theorem xX (p:LI) (h:aC p):aC (uY p):=h.put 31 _ (by have:=h 31;omega)
theorem agO:∀x:Fin 256,bits .and .u8 (x.val:Int) 127=(x.val:Int)%128:=of_decide_eq_true (by kernel_rfl)
theorem aeA (x:Int) (h:0≤x∧x≤255):bits .and .u8 x 127=x%128:=by
 have h1:=agO ⟨x.toNat,by omega⟩
 have h2:((x.toNat:Nat):Int)=x:=by omega
 simp only[h2]at h1
 exact h1
theorem abR:∀x:Fin 256,0≤bits .and .u8 (x.val:Int) 248∧bits .and .u8 (x.val:Int) 248≤255:=of_decide_eq_true (by kernel_rfl)
theorem ahR:∀x:Fin 256,0≤bits .or .u8 (bits .and .u8 (x.val:Int) 127) 64∧bits .or .u8 (bits .and .u8 (x.val:Int) 127) 64≤255:=of_decide_eq_true (by kernel_rfl)
theorem PQ (x:Int) (h:0≤x∧x≤255):∃y:Fin 256,x=(y.val:Int):=⟨⟨x.toNat,by omega⟩,by simp only;omega⟩
theorem NW (l:LI) (h:aC l):aC (mO l):=by
 unfold mO
 refine(h.put 0 _ ?_).put 31 _ ?_
 ·obtain⟨y,hy⟩:=PQ _ (h 0)
  rw[hy]
  exact abR y
 ·obtain⟨y,hy⟩:=PQ _ (h 31)
  rw[hy]
  exact ahR y
def JZ (l:LI) (n:Nat):Bool:=decide (nV l n=1)
def smN (l p:LI):Int:=(nZ (JZ l) (nB (uY p)) 255).x1*FV (nZ (JZ l) (nB (uY p)) 255).z1 255
def fW (l p:LI):LI:=JW (smN l p%pF) 32
theorem bA (l p:LI):(fW l p).length=32:=zM _ _
def KN (l p:LI):gL:=cW l (pG (uY p)) 255
theorem aiH (l p:LI) (hp:p.length=32) (hb:aC p):Dg (pG (uY p))∧Dg (KN l p).x1∧Dg (KN l p).z1∧Dg (KN l p).x2∧Dg (KN l p).z2∧Dg (nL (KN l p).z1 255)∧Dg (fU (KN l p).x1 (nL (KN l p).z1 255))∧dN (fU (KN l p).x1 (nL (KN l p).z1 255))%pF=smN l p%pF:=by
 obtain⟨h1,h2⟩:=RY (uY p) (by rw[uZ,hp]) (xX p hb)
 have hu:lV (pG (uY p)) (nB (uY p)):=⟨h1,0,by omega⟩
 obtain⟨k1,k2,k3,k4⟩:=JE l (pG (uY p)) (nB (uY p)) hu 255
 have k5:=k2.pow 255
 have k6:=k1.mul k5
 refine⟨h1,k1.1,k2.1,k3.1,k4.1,k5.1,k6.1,?_⟩
 obtain⟨_,q,hq⟩:=k6
 have e:dN (fU (KN l p).x1 (nL (KN l p).z1 255))=smN l p - q*pF:=hq
 rw[e]
 exact Int.sub_mul_emod_self_right _ _ _
def smR (l p:LI):gL:=qZ (mO l) (vH (uY p)) 255
theorem afL (q:gL) (n:TA) (hx:WG q n) (m:Nat):kL (nK q.z1 m)∧bT (eM q.x1 (nK q.z1 m)) (n.x1*FV n.z1 m):=⟨(hx.z1.pow m).1,hx.x1.times (hx.z1.pow m)⟩
theorem aiF (l p:LI) (hl:l.length=32) (hlb:aC l) (hp:p.length=32) (hb:aC p):kL (vH (uY p))∧WG (smR l p) (nZ (JZ l) (nB (uY p)) 255):=by
 have hu:=ab6 (uY p) (by rw[uZ,hp]) (xX p hb)
 have h:=XJ (mO l) (vH (uY p)) (nB (uY p)) hu (JZ l) (fun n hn=>by
  rw[Y9 l hl hlb n hn]
  unfold JZ
  exact decide_eq_true_iff) 255 (nQ _)
 exact⟨hu.1,h⟩
def aiG (l p:LI) (m:Nat):Int:=(nZ (JZ l) (nB (uY p)) 255).x1*FV (nZ (JZ l) (nB (uY p)) 255).z1 m
theorem adF (l p:LI):aiG l p 255=smN l p:=rfl
end Go.Proofs.YtmjccemdldidaaaGreatDoor
