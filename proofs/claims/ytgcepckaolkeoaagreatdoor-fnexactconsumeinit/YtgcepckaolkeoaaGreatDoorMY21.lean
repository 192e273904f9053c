import Derived.Test.YtgcepckaolkeoaaGreatDoorMY17
namespace Go.Proofs.YtgcepckaolkeoaaGreatDoor
open Go.RowKit
open Go.Proofs.Tryz
open Go.RowKit Go.Lib
open Go renaming heap_alloc_new → hAN, rounds_succ → rdS, wpList_load_row → wpLr
open List renaming length_set → lJ, mem_cons_of_mem → mC, mem_cons_self → mQ, not_mem_nil → nY
open Nat renaming le_refl → nQ
set_option linter.unusedVariables false
set_option maxRecDepth 100000 in
theorem ab0:∀x:Fin 256,∀j:Fin 8,bits .and .u8 (x.val:Int) 248 / 2^j.val%2=if j.val<3 then 0 else(x.val:Int) / 2^j.val%2:=of_decide_eq_true (by kernel_rfl)
set_option maxRecDepth 100000 in
theorem ae5:∀x:Fin 256,∀j:Fin 8,bits .or .u8 (bits .and .u8 (x.val:Int) 127) 64 / 2^j.val%2=if j.val=6 then 1 else if j.val=7 then 0 else(x.val:Int) / 2^j.val%2:=of_decide_eq_true (by kernel_rfl)
def kY (l:List Int):List Int:=(l.set 0 (bits .and .u8 (l.getD 0 0) 248)).set 31 (bits .or .u8 (bits .and .u8 (l.getD 31 0) 127) 64)
theorem GK (l:List Int):(kY l).length=l.length:=by simp[kY]
theorem XF (l:List Int) (hl:l.length=32) (i:Nat):(kY l).getD i 0=if i=31 then bits .or .u8 (bits .and .u8 (l.getD 31 0) 127) 64 else if i=0 then bits .and .u8 (l.getD 0 0) 248 else l.getD i 0:=by
 unfold kY
 rw[rX _ _ _ _ (by rw[lJ,hl];decide),rX _ _ _ _ (by rw[hl];decide)]
theorem TL (l:List Int) (hl:l.length=32) (hb:aE l) (n:Nat) (hn:n≤254):(kY l).getD (n / 8) 0 / 2^(n%8)%2=mP l n:=by
 have hx:∀i,∃x:Fin 256,l.getD i 0=(x.val:Int):=fun i=>by
  have h:=hb i
  exact⟨⟨(l.getD i 0).toNat,by omega⟩,by simp only;omega⟩
 rw[XF l hl]
 by_cases h1:n / 8=31
 ·obtain⟨x,hx⟩:=hx 31
  have h:=ae5 x ⟨n%8,by omega⟩
  simp only at h
  rw[if_pos h1,hx,h]
  by_cases h6:n=254
  ·rw[if_pos (show n%8=6 by omega)]
   unfold mP
   rw[if_neg (show¬(n=255∨n<3) by omega),if_pos h6]
  ·rw[if_neg (show¬n%8=6 by omega),if_neg (show¬n%8=7 by omega)]
   unfold mP
   rw[if_neg (show¬(n=255∨n<3) by omega),if_neg h6,h1,hx]
 ·rw[if_neg h1]
  by_cases h0:n / 8=0
  ·obtain⟨x,hx⟩:=hx 0
   have h:=ab0 x ⟨n%8,by omega⟩
   simp only at h
   rw[if_pos h0,hx,h]
   by_cases h3:n<3
   ·rw[if_pos (show n%8<3 by omega)]
    unfold mP
    rw[if_pos (show n=255∨n<3 by omega)]
   ·rw[if_neg (show¬n%8<3 by omega)]
    unfold mP
    rw[if_neg (show¬(n=255∨n<3) by omega),if_neg (show¬n=254 by omega),h0,hx]
  ·rw[if_neg h0]
   unfold mP
   rw[if_neg (show¬(n=255∨n<3) by omega),if_neg (show¬n=254 by omega)]
def lM (l:List Int):Nat→List Int
 | 0=>(1::aA 15)
 | m+1=>if 254 - m=2∨254 - m=4 then fI (lM l m) (lM l m)else fI (fI (lM l m) (lM l m)) l
theorem kL.pow {l:List Int} {x:Int} (h:kL l x):∀m,kL (lM l m) (CL x m)
 | 0=>kL.small 1 (by decide)
 | m+1=>by
   have ih:=kL.pow h m
   unfold lM CL
   split
   ·exact ih.mul ih
   ·exact(ih.mul ih).mul h
theorem UG {l:List Int} {m:Nat} (h:254 - m=2∨254 - m=4):lM l (m+1)=fI (lM l m) (lM l m):=by rw[lM,if_pos h]
theorem UF {l:List Int} {m:Nat} (h:¬(254 - m=2∨254 - m=4)):lM l (m+1)=fI (fI (lM l m) (lM l m)) l:=by rw[lM,if_neg h]
theorem aaK {l:List Int} (h:Dg l) (m:Nat):Dg (lM l m):=(((show kL l (dN l)from⟨h,0,by omega⟩)).pow m).1
set_option maxRecDepth 10000 in
set_option maxHeartbeats 4000000 in
theorem PT (a:List Int) (ha:Dg a) (w:World):
 Calls prog 58 #[.agg (Iv .i64 a)] w fun e w'=>e=.returned (.agg (Iv .i64 (lM a 255)))∧Below w.heap.size w w':=by
 have hzv:=tS
 have hi:Hid (∀l:List Int,l.length=16→(prog.info? 108).map (·.size)=some (Iv .i64 l).size):=fun l hl=>aT hl
 have HA:Hid (Dg a):=ha
 have HF:Hid _:=fun m=>aaK ha m
 have hal:Hid (a.length=16):=ha.1
 clear ha
 have hlen:Hid (∀m,(lM a m).length=16):=fun m=>(HF.out m).1
 obtain⟨W,hW,g0,g1,hsz,hB⟩:=kX w (.cells (Iv .i64 a) 108) (.cells (Iv .i64 (aA 16)) 108)
 have F0:Hid (Rw w [((w.heap.size+1),Iv .i64 (aA 16),108),(w.heap.size,Iv .i64 a,108)] W):=
  ⟨hB,fun r hr=>by
   simp only[List.mem_cons,nY,or_false]at hr
   rcases hr with rfl|rfl
   ·exact⟨by simp only;omega,by simp only;omega,g1⟩
   ·exact⟨by simp only;omega,by simp only;omega,g0⟩⟩
 have HW:Hid _:=hW
 clear hW g0 g1 hB hsz
 go_enter func58,ntmps58
 go_wp2_with fail
 rw[HW.out]
 refine(AF 1 (by decide) _).mono ?_
 rintro e W0 ⟨rfl,hb⟩
 have F0b:Hid (Rw w [((w.heap.size+1),Iv .i64 (aA 16),108),(w.heap.size,Iv .i64 a,108)] W0):=F0.out.later hb (nQ _)
 clear hb F0 HW
 have KA:Hid ((W0.alloc (.cells (Iv .i64 (aA 16)) 108)).heap[W0.heap.size]? =some (.cells (Iv .i64 (aA 16)) 108)):=hAN _ _
 go_wp2_with(refine wpPr rfl 108 _ _ rfl W0.heap.size (Iv .i64 (iJ 1)) rfl rfl _ _ KA.out (hi.out _ rfl) (eS rfl) (aG _ _) (fun W1 hP=>sH ?_))
 refine aH ?_
 have F1a:=F0b.out.newRow hP
 obtain⟨g,eg⟩:∃x,x=W0.heap.size:=⟨_,rfl⟩
 have hg1:w.heap.size+1<g:=by rw[eg];exact(F0b.out.row _ mQ).2.1
 rw[←eg]at F1a⊢
 have F1:Hid (Rw w [(g,Iv .i64 (lM a 0),108),((w.heap.size+1),Iv .i64 (aA 16),108),(w.heap.size,Iv .i64 a,108)] W1):=F1a
 clear F1a hP KA F0b eg
 go_wp2_with fail
 go_loopw [4] (fun i wr=>∃(j:Int) (m:Nat),j+m=254∧m≤255∧i=.int .i64 j∧Rw w [(g,Iv .i64 (lM a m),108),((w.heap.size+1),Iv .i64 (aA 16),108),(w.heap.size,Iv .i64 a,108)] wr) (fun i _=>(intOf i+1).toNat)
 case atStart=>exact⟨254,0,by decide,by decide,rfl,F1.out⟩
 case round=>
  obtain⟨j,m,hjm,hm,rfl,hF⟩:=hrel
  have F2:Hid _:=hF
  clear hF F1
  by_cases hj:0≤j
  ·have hj2:j≤254:=by omega
   have HP:Hid _:=HF.out m
   obtain⟨p,ep⟩:∃x,lM a m=x:=⟨_,rfl⟩
   have hpl:Hid (p.length=16):=by show _=_;rw[←ep];exact hlen.out m
   rw[ep]at F2 HP
   have EP:Hid _:=ep
   clear ep
   have G2:Hid _:=(F2.out.row _ mQ).2.2
   go_wp2_with(with_reducible refine aJ ?_;refine wpLr rfl 108 _ rfl g rfl _ (Iv .i64 p) _ _ G2.out underlying108 rfl (hi.out p hpl.out) ?_)
   refine(kU p p HP.out HP.out _).mono ?_
   rintro e Z ⟨rfl,hb⟩
   have F3:Hid (Rw w [(g,Iv .i64 p,108),((w.heap.size+1),Iv .i64 (aA 16),108),(w.heap.size,Iv .i64 a,108)] Z):=F2.out.later hb (nQ _)
   clear hb F2 G2
   obtain⟨s,es⟩:∃x,fI p p=x:=⟨_,rfl⟩
   have HS:Hid (Dg s):=by show Dg s;rw[←es];exact(zD p p HP.out HP.out).1
   have hsl:Hid (s.length=16):=HS.out.1
   rw[es]
   have ES:Hid _:=es
   clear es
   have G3:Hid _:=(F3.out.row _ mQ).2.2
   go_wp2_with(refine wpPr rfl 108 _ _ rfl g (Iv .i64 s) rfl rfl _ _ G3.out (hi.out s hsl.out) (by rw[aD,aD,hpl.out,hsl.out]) (aG _ _) (fun Z1 hP=>sH ?_))
   refine aH ?_
   have F4:Hid (Rw w [(g,Iv .i64 s,108),((w.heap.size+1),Iv .i64 (aA 16),108),(w.heap.size,Iv .i64 a,108)] Z1):=Rw.put F3.out hP (fun r hr=>by simp only[List.mem_cons,nY,or_false]at hr;rcases hr with rfl|rfl<;>(simp only;omega))
   clear hP F3 G3
   by_cases hc:j=2∨j=4
   ·have e1:Hid (lM a (m+1)=s):=by show _=_;rw[UG (by omega),EP.out,ES.out]
    rcases hc with rfl|rfl
    all_goals go_wp2
    all_goals go_roundw
    case rel=>exact⟨1,m+1,by omega,by omega,by go_num,by rw[e1.out];exact F4.out⟩
    case measure=>simp[intOf]
    case rel=>exact⟨3,m+1,by omega,by omega,by go_num,by rw[e1.out];exact F4.out⟩
    case measure=>simp[intOf]
   ·have e1:Hid (lM a (m+1)=fI s a):=by show _=_;rw[UF (by omega),EP.out,ES.out]
    have hj3:(j=2)=False:=by simp;omega
    have hj4:(j=4)=False:=by simp;omega
    have hj5:(j !=2)=true:=by simp;omega
    have hj6:(j !=4)=true:=by simp;omega
    have G4:Hid _:=(F4.out.row _ mQ).2.2
    have G5:Hid _:=(F4.out.row _ (mC _ (mC _ mQ))).2.2
    go_wp2_with(with_reducible refine aJ ?_;first
     | refine wpLr rfl 108 _ rfl g rfl _ (Iv .i64 s) _ _ G4.out underlying108 rfl (hi.out s hsl.out) ?_
     | refine wpLr rfl 108 _ rfl w.heap.size rfl _ (Iv .i64 a) _ _ G5.out underlying108 rfl (hi.out a hal.out) ?_)
    refine(kU s a HS.out HA.out _).mono ?_
    rintro e Z2 ⟨rfl,hb⟩
    have F5:Hid (Rw w [(g,Iv .i64 s,108),((w.heap.size+1),Iv .i64 (aA 16),108),(w.heap.size,Iv .i64 a,108)] Z2):=F4.out.later hb (nQ _)
    clear hb F4 G4 G5
    obtain⟨t,et⟩:∃x,fI s a=x:=⟨_,rfl⟩
    have htl:Hid (t.length=16):=by show _=_;rw[←et];exact(zD s a HS.out HA.out).1.1
    rw[et]at e1⊢
    clear et
    have G6:Hid _:=(F5.out.row _ mQ).2.2
    go_wp2_with(refine wpPr rfl 108 _ _ rfl g (Iv .i64 t) rfl rfl _ _ G6.out (hi.out t htl.out) (by rw[aD,aD,hsl.out,htl.out]) (aG _ _) (fun Z3 hP=>sH ?_))
    refine aH ?_
    have F6:Hid (Rw w [(g,Iv .i64 t,108),((w.heap.size+1),Iv .i64 (aA 16),108),(w.heap.size,Iv .i64 a,108)] Z3):=Rw.put F5.out hP (fun r hr=>by simp only[List.mem_cons,nY,or_false]at hr;rcases hr with rfl|rfl<;>(simp only;omega))
    clear hP F5 G6
    go_wp2
    go_roundw
    case rel=>exact⟨j - 1,m+1,by omega,by omega,by go_num,by rw[e1.out];exact F6.out⟩
    case measure=>simp[intOf];omega
  ·obtain rfl:m=255:=by omega
   have G7:Hid _:=(F2.out.row _ mQ).2.2
   have G8:Hid _:=(F2.out.row _ (mC _ mQ)).2.2
   have B2:Hid _:=F2.out.bel
   have hrl:Hid _:=hlen.out 255
   clear F2 HF hlen
   obtain⟨r,er⟩:∃x,lM a 255=x:=⟨_,rfl⟩
   rw[er]at G7 hrl
   have ER:Hid _:=er
   clear er
   go_wp2_with(first
    | refine wpLr rfl 108 _ rfl g rfl _ (Iv .i64 r) _ _ G7.out underlying108 rfl (hi.out r hrl.out) ?_
    | refine wpPr rfl 108 _ _ rfl (w.heap.size+1) (Iv .i64 r) rfl rfl _ _ G8.out (hi.out r hrl.out) (eS hrl.out) (aG _ _) (fun W9 hP=>sH ?_))
   refine aH ?_
   have B9:=hP.below _ _ B2.out (by omega)
   have G9:=hP.here
   go_wp2
   exact bodyPost_ret (v:=.agg (Iv .i64 r)) (results_cell_row rfl _ _ _ _ (Iv .i64 r) _ _ rfl G9 underlying108 rfl (hi.out r hrl.out)) rfl ⟨by rw[ER.out],B9⟩
set_option maxRecDepth 10000 in
set_option maxHeartbeats 8000000 in
theorem EU (a:List Int) (ha:Dg a) (w:World):
 Calls prog 79 #[.agg (Iv .i64 a)] w fun e w'=>e=.returned (.bool (decide (dN a<pF)))∧Below w.heap.size w w':=by
 obtain⟨t0,t1,t2,t3,t4,t5,t6,t7,t8,t9,t10,t11,t12,t13,t14,t15,rfl⟩:=gM a ha.1
 have h0:0≤t0∧t0≤65535:=ha.2 0
 have h1:0≤t1∧t1≤65535:=ha.2 1
 have h2:0≤t2∧t2≤65535:=ha.2 2
 have h3:0≤t3∧t3≤65535:=ha.2 3
 have h4:0≤t4∧t4≤65535:=ha.2 4
 have h5:0≤t5∧t5≤65535:=ha.2 5
 have h6:0≤t6∧t6≤65535:=ha.2 6
 have h7:0≤t7∧t7≤65535:=ha.2 7
 have h8:0≤t8∧t8≤65535:=ha.2 8
 have h9:0≤t9∧t9≤65535:=ha.2 9
 have h10:0≤t10∧t10≤65535:=ha.2 10
 have h11:0≤t11∧t11≤65535:=ha.2 11
 have h12:0≤t12∧t12≤65535:=ha.2 12
 have h13:0≤t13∧t13≤65535:=ha.2 13
 have h14:0≤t14∧t14≤65535:=ha.2 14
 have h15:0≤t15∧t15≤65535:=ha.2 15
 have HV:Hid (dN [t0,t1,t2,t3,t4,t5,t6,t7,t8,t9,t10,t11,t12,t13,t14,t15]=1*t0+65536*t1+4294967296*t2+281474976710656*t3+18446744073709551616*t4+1208925819614629174706176*t5+79228162514264337593543950336*t6+5192296858534827628530496329220096*t7+340282366920938463463374607431768211456*t8+22300745198530623141535718272648361505980416*t9+1461501637330902918203684832716283019655932542976*t10+95780971304118053647396689196894323976171195136475136*t11+6277101735386680763835789423207666416102355444464034512896*t12+411376139330301510538742295639337626245683966408394965837152256*t13+26959946667150639794667015087019630673637144422540572481103610249216*t14+1766847064778384329583297500742918515827483896875618958121606201292619776*t15):=by
  show _=_
  simp only[dN]
  omega
 have hrow:Iv .i64 [t0,t1,t2,t3,t4,t5,t6,t7,t8,t9,t10,t11,t12,t13,t14,t15]=#[.int .i64 t0,.int .i64 t1,.int .i64 t2,.int .i64 t3,.int .i64 t4,.int .i64 t5,.int .i64 t6,.int .i64 t7,.int .i64 t8,.int .i64 t9,.int .i64 t10,.int .i64 t11,.int .i64 t12,.int .i64 t13,.int .i64 t14,.int .i64 t15]:=rfl
 rw[HV.out,hrow]
 clear HV ha hrow
 have B1:Hid (Below w.heap.size w (w.alloc (.cells #[.int .i64 t0,.int .i64 t1,.int .i64 t2,.int .i64 t3,.int .i64 t4,.int .i64 t5,.int .i64 t6,.int .i64 t7,.int .i64 t8,.int .i64 t9,.int .i64 t10,.int .i64 t11,.int .i64 t12,.int .i64 t13,.int .i64 t14,.int .i64 t15] 108))):=(Below.refl _ _).alloc (nQ _) _
 by_cases g15:t15=32767
 ·subst g15
  go_enter func79,ntmps79
  go_wp2
  refine wp_loop_rounds 15 ?_
  rw[rdS]
  by_cases g14:t14=65535
  ·subst g14
   go_wp2_with fail
   rw[rdS]
   by_cases g13:t13=65535
   ·subst g13
    go_wp2_with fail
    rw[rdS]
    by_cases g12:t12=65535
    ·subst g12
     go_wp2_with fail
     rw[rdS]
     by_cases g11:t11=65535
     ·subst g11
      go_wp2_with fail
      rw[rdS]
      by_cases g10:t10=65535
      ·subst g10
       go_wp2_with fail
       rw[rdS]
       by_cases g9:t9=65535
       ·subst g9
        go_wp2_with fail
        rw[rdS]
        by_cases g8:t8=65535
        ·subst g8
         go_wp2_with fail
         rw[rdS]
         by_cases g7:t7=65535
         ·subst g7
          go_wp2_with fail
          rw[rdS]
          by_cases g6:t6=65535
          ·subst g6
           go_wp2_with fail
           rw[rdS]
           by_cases g5:t5=65535
           ·subst g5
            go_wp2_with fail
            rw[rdS]
            by_cases g4:t4=65535
            ·subst g4
             go_wp2_with fail
             rw[rdS]
             by_cases g3:t3=65535
             ·subst g3
              go_wp2_with fail
              rw[rdS]
              by_cases g2:t2=65535
              ·subst g2
               go_wp2_with fail
               rw[rdS]
               by_cases g1:t1=65535
               ·subst g1
                go_wp2_with fail
                rw[rdS]
                by_cases g0:t0<65517
                ·have g0i:t0<65517:=g0
                 go_wp2
                 go_ret
                 first|exact⟨congrArg Ending.returned (congrArg Value.bool (decide_eq_true (by unfold pF;omega)).symm),B1.out⟩|exact⟨congrArg Ending.returned (congrArg Value.bool (decide_eq_false (by unfold pF;omega)).symm),B1.out⟩
                ·have g0i:(t0<65517)=False:=eq_false g0
                 go_wp2
                 go_ret
                 first|exact⟨congrArg Ending.returned (congrArg Value.bool (decide_eq_true (by unfold pF;omega)).symm),B1.out⟩|exact⟨congrArg Ending.returned (congrArg Value.bool (decide_eq_false (by unfold pF;omega)).symm),B1.out⟩
               ·have g1i:(t1=65535)=False:=eq_false g1
                go_wp2
                go_ret
                first|exact⟨congrArg Ending.returned (congrArg Value.bool (decide_eq_true (by unfold pF;omega)).symm),B1.out⟩|exact⟨congrArg Ending.returned (congrArg Value.bool (decide_eq_false (by unfold pF;omega)).symm),B1.out⟩
              ·have g2i:(t2=65535)=False:=eq_false g2
               go_wp2
               go_ret
               first|exact⟨congrArg Ending.returned (congrArg Value.bool (decide_eq_true (by unfold pF;omega)).symm),B1.out⟩|exact⟨congrArg Ending.returned (congrArg Value.bool (decide_eq_false (by unfold pF;omega)).symm),B1.out⟩
             ·have g3i:(t3=65535)=False:=eq_false g3
              go_wp2
              go_ret
              first|exact⟨congrArg Ending.returned (congrArg Value.bool (decide_eq_true (by unfold pF;omega)).symm),B1.out⟩|exact⟨congrArg Ending.returned (congrArg Value.bool (decide_eq_false (by unfold pF;omega)).symm),B1.out⟩
            ·have g4i:(t4=65535)=False:=eq_false g4
             go_wp2
             go_ret
             first|exact⟨congrArg Ending.returned (congrArg Value.bool (decide_eq_true (by unfold pF;omega)).symm),B1.out⟩|exact⟨congrArg Ending.returned (congrArg Value.bool (decide_eq_false (by unfold pF;omega)).symm),B1.out⟩
           ·have g5i:(t5=65535)=False:=eq_false g5
            go_wp2
            go_ret
            first|exact⟨congrArg Ending.returned (congrArg Value.bool (decide_eq_true (by unfold pF;omega)).symm),B1.out⟩|exact⟨congrArg Ending.returned (congrArg Value.bool (decide_eq_false (by unfold pF;omega)).symm),B1.out⟩
          ·have g6i:(t6=65535)=False:=eq_false g6
           go_wp2
           go_ret
           first|exact⟨congrArg Ending.returned (congrArg Value.bool (decide_eq_true (by unfold pF;omega)).symm),B1.out⟩|exact⟨congrArg Ending.returned (congrArg Value.bool (decide_eq_false (by unfold pF;omega)).symm),B1.out⟩
         ·have g7i:(t7=65535)=False:=eq_false g7
          go_wp2
          go_ret
          first|exact⟨congrArg Ending.returned (congrArg Value.bool (decide_eq_true (by unfold pF;omega)).symm),B1.out⟩|exact⟨congrArg Ending.returned (congrArg Value.bool (decide_eq_false (by unfold pF;omega)).symm),B1.out⟩
        ·have g8i:(t8=65535)=False:=eq_false g8
         go_wp2
         go_ret
         first|exact⟨congrArg Ending.returned (congrArg Value.bool (decide_eq_true (by unfold pF;omega)).symm),B1.out⟩|exact⟨congrArg Ending.returned (congrArg Value.bool (decide_eq_false (by unfold pF;omega)).symm),B1.out⟩
       ·have g9i:(t9=65535)=False:=eq_false g9
        go_wp2
        go_ret
        first|exact⟨congrArg Ending.returned (congrArg Value.bool (decide_eq_true (by unfold pF;omega)).symm),B1.out⟩|exact⟨congrArg Ending.returned (congrArg Value.bool (decide_eq_false (by unfold pF;omega)).symm),B1.out⟩
      ·have g10i:(t10=65535)=False:=eq_false g10
       go_wp2
       go_ret
       first|exact⟨congrArg Ending.returned (congrArg Value.bool (decide_eq_true (by unfold pF;omega)).symm),B1.out⟩|exact⟨congrArg Ending.returned (congrArg Value.bool (decide_eq_false (by unfold pF;omega)).symm),B1.out⟩
     ·have g11i:(t11=65535)=False:=eq_false g11
      go_wp2
      go_ret
      first|exact⟨congrArg Ending.returned (congrArg Value.bool (decide_eq_true (by unfold pF;omega)).symm),B1.out⟩|exact⟨congrArg Ending.returned (congrArg Value.bool (decide_eq_false (by unfold pF;omega)).symm),B1.out⟩
    ·have g12i:(t12=65535)=False:=eq_false g12
     go_wp2
     go_ret
     first|exact⟨congrArg Ending.returned (congrArg Value.bool (decide_eq_true (by unfold pF;omega)).symm),B1.out⟩|exact⟨congrArg Ending.returned (congrArg Value.bool (decide_eq_false (by unfold pF;omega)).symm),B1.out⟩
   ·have g13i:(t13=65535)=False:=eq_false g13
    go_wp2
    go_ret
    first|exact⟨congrArg Ending.returned (congrArg Value.bool (decide_eq_true (by unfold pF;omega)).symm),B1.out⟩|exact⟨congrArg Ending.returned (congrArg Value.bool (decide_eq_false (by unfold pF;omega)).symm),B1.out⟩
  ·have g14i:(t14=65535)=False:=eq_false g14
   go_wp2
   go_ret
   first|exact⟨congrArg Ending.returned (congrArg Value.bool (decide_eq_true (by unfold pF;omega)).symm),B1.out⟩|exact⟨congrArg Ending.returned (congrArg Value.bool (decide_eq_false (by unfold pF;omega)).symm),B1.out⟩
 ·have g15i:(t15=32767)=False:=eq_false g15
  by_cases gl:t15<32767
  ·go_enter func79,ntmps79
   go_wp2
   go_ret
   first|exact⟨congrArg Ending.returned (congrArg Value.bool (decide_eq_true (by unfold pF;omega)).symm),B1.out⟩|exact⟨congrArg Ending.returned (congrArg Value.bool (decide_eq_false (by unfold pF;omega)).symm),B1.out⟩
  ·have gli:(t15<32767)=False:=eq_false gl
   go_enter func79,ntmps79
   go_wp2
   go_ret
   first|exact⟨congrArg Ending.returned (congrArg Value.bool (decide_eq_true (by unfold pF;omega)).symm),B1.out⟩|exact⟨congrArg Ending.returned (congrArg Value.bool (decide_eq_false (by unfold pF;omega)).symm),B1.out⟩
set_option linter.unusedSimpArgs false
def sC (k:Nat):Int:=if k=15 then 32767 else if k=0 then 65517 else 65535
def mX (a:List Int):Nat→Int
 | 0=>0
 | k+1=>if a.getD k 0 - sC k - mX a k<0 then 1 else 0
def nG (a:List Int) (k:Nat):Int:=if a.getD k 0 - sC k - mX a k<0 then a.getD k 0 - sC k - mX a k+65536 else a.getD k 0 - sC k - mX a k
def cY (a:List Int):List Int:=pF9 a 0 (nG a) 16
theorem yK (a:List Int) (k:Nat):mX a (k+1)=if a.getD k 0 - sC k - mX a k<0 then 1 else 0:=rfl
theorem J6 (a:List Int):∀k,0≤mX a k∧mX a k≤1
 | 0=>by unfold mX;omega
 | k+1=>by rw[yK];split<;>omega
theorem iL (a:List Int) (k:Nat):a.getD k 0 - sC k - mX a k=nG a k - 65536*mX a (k+1):=by
 rw[yK]
 unfold nG
 split<;>omega
theorem kH (a:List Int) (k:Nat) (h:0≤a.getD k 0∧a.getD k 0≤65535):0≤nG a k∧nG a k≤65535:=by
 have h1:=J6 a k
 have h2:0≤sC k∧sC k≤65535:=by unfold sC;split<;>(try split)<;>omega
 unfold nG
 split<;>omega
theorem VZ (l:List Int) (h:l.length=16):cY l=[nG l 0,nG l 1,nG l 2,nG l 3,nG l 4,nG l 5,nG l 6,nG l 7,nG l 8,nG l 9,nG l 10,nG l 11,nG l 12,nG l 13,nG l 14,nG l 15]:=by
 obtain⟨t0,t1,t2,t3,t4,t5,t6,t7,t8,t9,t10,t11,t12,t13,t14,t15,rfl⟩:=gM l h
 rfl
theorem SU (l:List Int) (h:Dg l) (hp:pF≤dN l):Dg (cY l)∧dN (cY l)=dN l - pF:=by
 have e0:=iL l 0
 have f0:=kH l 0 (h.2 0)
 have e1:=iL l 1
 have f1:=kH l 1 (h.2 1)
 have e2:=iL l 2
 have f2:=kH l 2 (h.2 2)
 have e3:=iL l 3
 have f3:=kH l 3 (h.2 3)
 have e4:=iL l 4
 have f4:=kH l 4 (h.2 4)
 have e5:=iL l 5
 have f5:=kH l 5 (h.2 5)
 have e6:=iL l 6
 have f6:=kH l 6 (h.2 6)
 have e7:=iL l 7
 have f7:=kH l 7 (h.2 7)
 have e8:=iL l 8
 have f8:=kH l 8 (h.2 8)
 have e9:=iL l 9
 have f9:=kH l 9 (h.2 9)
 have e10:=iL l 10
 have f10:=kH l 10 (h.2 10)
 have e11:=iL l 11
 have f11:=kH l 11 (h.2 11)
 have e12:=iL l 12
 have f12:=kH l 12 (h.2 12)
 have e13:=iL l 13
 have f13:=kH l 13 (h.2 13)
 have e14:=iL l 14
 have f14:=kH l 14 (h.2 14)
 have e15:=iL l 15
 have f15:=kH l 15 (h.2 15)
 have b0:mX l 0=0:=rfl
 have b16:=J6 l 16
 have hs:=VZ l h.1
 have hm0:sC 0=65517:=rfl
 have hm15:sC 15=32767:=rfl
 have hm1:sC 1=65535:=rfl
 have hm2:sC 2=65535:=rfl
 have hm3:sC 3=65535:=rfl
 have hm4:sC 4=65535:=rfl
 have hm5:sC 5=65535:=rfl
 have hm6:sC 6=65535:=rfl
 have hm7:sC 7=65535:=rfl
 have hm8:sC 8=65535:=rfl
 have hm9:sC 9=65535:=rfl
 have hm10:sC 10=65535:=rfl
 have hm11:sC 11=65535:=rfl
 have hm12:sC 12=65535:=rfl
 have hm13:sC 13=65535:=rfl
 have hm14:sC 14=65535:=rfl
 rw[hs]
 obtain⟨t0,t1,t2,t3,t4,t5,t6,t7,t8,t9,t10,t11,t12,t13,t14,t15,rfl⟩:=gM l h.1
 simp only[List.getD_cons_zero,List.getD_cons_succ]at e0 e1 e2 e3 e4 e5 e6 e7 e8 e9 e10 e11 e12 e13 e14 e15
 simp only[dN]at hp⊢
 generalize nG [t0,t1,t2,t3,t4,t5,t6,t7,t8,t9,t10,t11,t12,t13,t14,t15] 0=d0 at*
 generalize nG [t0,t1,t2,t3,t4,t5,t6,t7,t8,t9,t10,t11,t12,t13,t14,t15] 1=d1 at*
 generalize nG [t0,t1,t2,t3,t4,t5,t6,t7,t8,t9,t10,t11,t12,t13,t14,t15] 2=d2 at*
 generalize nG [t0,t1,t2,t3,t4,t5,t6,t7,t8,t9,t10,t11,t12,t13,t14,t15] 3=d3 at*
 generalize nG [t0,t1,t2,t3,t4,t5,t6,t7,t8,t9,t10,t11,t12,t13,t14,t15] 4=d4 at*
 generalize nG [t0,t1,t2,t3,t4,t5,t6,t7,t8,t9,t10,t11,t12,t13,t14,t15] 5=d5 at*
 generalize nG [t0,t1,t2,t3,t4,t5,t6,t7,t8,t9,t10,t11,t12,t13,t14,t15] 6=d6 at*
 generalize nG [t0,t1,t2,t3,t4,t5,t6,t7,t8,t9,t10,t11,t12,t13,t14,t15] 7=d7 at*
 generalize nG [t0,t1,t2,t3,t4,t5,t6,t7,t8,t9,t10,t11,t12,t13,t14,t15] 8=d8 at*
 generalize nG [t0,t1,t2,t3,t4,t5,t6,t7,t8,t9,t10,t11,t12,t13,t14,t15] 9=d9 at*
 generalize nG [t0,t1,t2,t3,t4,t5,t6,t7,t8,t9,t10,t11,t12,t13,t14,t15] 10=d10 at*
 generalize nG [t0,t1,t2,t3,t4,t5,t6,t7,t8,t9,t10,t11,t12,t13,t14,t15] 11=d11 at*
 generalize nG [t0,t1,t2,t3,t4,t5,t6,t7,t8,t9,t10,t11,t12,t13,t14,t15] 12=d12 at*
 generalize nG [t0,t1,t2,t3,t4,t5,t6,t7,t8,t9,t10,t11,t12,t13,t14,t15] 13=d13 at*
 generalize nG [t0,t1,t2,t3,t4,t5,t6,t7,t8,t9,t10,t11,t12,t13,t14,t15] 14=d14 at*
 generalize nG [t0,t1,t2,t3,t4,t5,t6,t7,t8,t9,t10,t11,t12,t13,t14,t15] 15=d15 at*
 generalize mX [t0,t1,t2,t3,t4,t5,t6,t7,t8,t9,t10,t11,t12,t13,t14,t15] 0=c0 at*
 generalize mX [t0,t1,t2,t3,t4,t5,t6,t7,t8,t9,t10,t11,t12,t13,t14,t15] 1=c1 at*
 generalize mX [t0,t1,t2,t3,t4,t5,t6,t7,t8,t9,t10,t11,t12,t13,t14,t15] 2=c2 at*
 generalize mX [t0,t1,t2,t3,t4,t5,t6,t7,t8,t9,t10,t11,t12,t13,t14,t15] 3=c3 at*
 generalize mX [t0,t1,t2,t3,t4,t5,t6,t7,t8,t9,t10,t11,t12,t13,t14,t15] 4=c4 at*
 generalize mX [t0,t1,t2,t3,t4,t5,t6,t7,t8,t9,t10,t11,t12,t13,t14,t15] 5=c5 at*
 generalize mX [t0,t1,t2,t3,t4,t5,t6,t7,t8,t9,t10,t11,t12,t13,t14,t15] 6=c6 at*
 generalize mX [t0,t1,t2,t3,t4,t5,t6,t7,t8,t9,t10,t11,t12,t13,t14,t15] 7=c7 at*
 generalize mX [t0,t1,t2,t3,t4,t5,t6,t7,t8,t9,t10,t11,t12,t13,t14,t15] 8=c8 at*
 generalize mX [t0,t1,t2,t3,t4,t5,t6,t7,t8,t9,t10,t11,t12,t13,t14,t15] 9=c9 at*
 generalize mX [t0,t1,t2,t3,t4,t5,t6,t7,t8,t9,t10,t11,t12,t13,t14,t15] 10=c10 at*
 generalize mX [t0,t1,t2,t3,t4,t5,t6,t7,t8,t9,t10,t11,t12,t13,t14,t15] 11=c11 at*
 generalize mX [t0,t1,t2,t3,t4,t5,t6,t7,t8,t9,t10,t11,t12,t13,t14,t15] 12=c12 at*
 generalize mX [t0,t1,t2,t3,t4,t5,t6,t7,t8,t9,t10,t11,t12,t13,t14,t15] 13=c13 at*
 generalize mX [t0,t1,t2,t3,t4,t5,t6,t7,t8,t9,t10,t11,t12,t13,t14,t15] 14=c14 at*
 generalize mX [t0,t1,t2,t3,t4,t5,t6,t7,t8,t9,t10,t11,t12,t13,t14,t15] 15=c15 at*
 generalize mX [t0,t1,t2,t3,t4,t5,t6,t7,t8,t9,t10,t11,t12,t13,t14,t15] 16=c16 at*
 have hb:c16=0:=by unfold pF at hp;omega
 refine⟨⟨rfl,fun i=>?_⟩,by unfold pF;omega⟩
 match i with
 | 0=>simp only[List.getD_cons_zero,List.getD_cons_succ];omega
 | 1=>simp only[List.getD_cons_zero,List.getD_cons_succ];omega
 | 2=>simp only[List.getD_cons_zero,List.getD_cons_succ];omega
 | 3=>simp only[List.getD_cons_zero,List.getD_cons_succ];omega
 | 4=>simp only[List.getD_cons_zero,List.getD_cons_succ];omega
 | 5=>simp only[List.getD_cons_zero,List.getD_cons_succ];omega
 | 6=>simp only[List.getD_cons_zero,List.getD_cons_succ];omega
 | 7=>simp only[List.getD_cons_zero,List.getD_cons_succ];omega
 | 8=>simp only[List.getD_cons_zero,List.getD_cons_succ];omega
 | 9=>simp only[List.getD_cons_zero,List.getD_cons_succ];omega
 | 10=>simp only[List.getD_cons_zero,List.getD_cons_succ];omega
 | 11=>simp only[List.getD_cons_zero,List.getD_cons_succ];omega
 | 12=>simp only[List.getD_cons_zero,List.getD_cons_succ];omega
 | 13=>simp only[List.getD_cons_zero,List.getD_cons_succ];omega
 | 14=>simp only[List.getD_cons_zero,List.getD_cons_succ];omega
 | 15=>simp only[List.getD_cons_zero,List.getD_cons_succ];omega
 | i+16=>simp only[List.getD_cons_succ,List.getD_nil];omega
theorem XG (l:List Int) (h:Dg l):0≤dN l∧dN l<115792089237316195423570985008687907853269984665640564039457584007913129639936:=by
 have:=abK l h.1 65535 h.2
 omega
def cP (l:List Int) (i:Nat):Int:=if i%2=0 then l.getD (i / 2) 0%256 else l.getD (i / 2) 0 / 256
def ac2:List Int→List Int
 | []=>[]
 | d::r=>d%256::d / 256::ac2 r
theorem RZ:∀l:List Int,(∀i,0≤l.getD i 0∧l.getD i 0≤65535)→ac2 l=CH (dN l) (2*l.length)
 | [],_=>rfl
 | d::r,h=>by
   have ih:=RZ r (fun i=>by have:=h (i+1);simpa using this)
   have h0:0≤d∧d≤65535:=by have:=h 0;simpa using this
   have ha:=s9 d (dN r) 2 (2*r.length) h0.1 (by have:(256:Int)^2=65536:=by decide
                                                rw[this];omega)
   have e1:CH d 2=[d%256,d / 256]:=by
    show[d / 256^0%256,d / 256^1%256]=_
    have p0:(256:Int)^0=1:=by decide
    have p1:(256:Int)^1=256:=by decide
    rw[p0,p1,Int.ediv_one,show d / 256%256=d / 256 by omega]
   have e2:(256:Int)^2=65536:=by decide
   rw[e1,e2]at ha
   have e3:2*(d::r).length=2+2*r.length:=by simp;omega
   rw[e3,dN,ha,ac2,ih]
   rfl
theorem FH (l:List Int) (h:Dg l):pF9 (aA 32) 0 (cP l) 32=CH (dN l) 32:=by
 have h1:=RZ l h.2
 rw[h.1]at h1
 obtain⟨t0,t1,t2,t3,t4,t5,t6,t7,t8,t9,t10,t11,t12,t13,t14,t15,rfl⟩:=gM l h.1
 exact h1
end Go.Proofs.YtgcepckaolkeoaaGreatDoor
