import Derived.Test.YtcmgclckknpecaaGreatDoorKag
namespace Go.Proofs.YtcmgclckknpecaaGreatDoor
open Go.RowKit Go.Shelf
set_option maxRecDepth 100000 in
set_option maxHeartbeats 8000000 in
theorem unq_str34t (s:ByteArray) (hsz:s.size≤1000000000000) (w:World) (hT:Tbr w) (hU:Lib.Utf8Tabs 5 6 w) (h0:2≤s.size) (hc0:(s[0]'(by omega)).toNat=34):Calls Tryz.prog 357 #[.string s,.bool true] w fun e w'=>UnO true s e∧Below w.heap.size w w':=by
 obtain ⟨i0,hi0,hz0,hz1,hz2⟩:=info5
 have hs164:=u164
 obtain ⟨te,pe,he⟩:=hT.s
 have h1:¬ (s.size:Int)<2:=by omega
 have h2:(0:Int)<(s.size:Int):=by omega
 have h3:(1:Int)≤(s.size:Int):=by omega
 have hc:((s[0]'(by omega)).toNat:Int)=34:=by omega
 have HT:Hid (Tbr w):=hT
 have HU:Hid (Lib.Utf8Tabs 5 6 w):=hU
 clear hc0 hT hU
 go_enter Tryz.func357,Tryz.ntmps357
 go_wp2_with fail
 refine (sidx_any _ _ _).mono ?_
 rintro e w1 ⟨⟨i,rfl,hi1,hi2,-⟩,rfl⟩
 rw [Lib.size_rest] at hi2
 by_cases hi:i<0
 ·go_wp2_with fail
  go_quiet (fail)
  go_wp2_with fail
  (try simp only [Exit.inBlock,Exit.then])
  refine bodyPost_ret (results_three' rfl _ _ _) rfl ?_
  exact ⟨UnO.err _ _ _ _ _,⟨rfl,rfl,rfl,Nat.le_refl _,fun _ _=>rfl⟩⟩
 ·obtain ⟨k,rfl⟩:∃ k:Nat,i=(k:Int):=⟨i.toNat,by omega⟩
  have hw:wrap64 ((k:Int)+2)=((k+2:Nat):Int):=by unfold wrap64;omega
  have hk1:((k+2:Nat):Int)≤(s.size:Int):=by omega
  have hk0:(0:Int)≤((k+2:Nat):Int):=by omega
  go_upto_region 25 with fail
  go_cut [99] (fun s99 wx=>wx=w1∧∃ b:Bool,s99=.bool b)
  case first =>
   go_wp2_with fail
   refine (scont_any _ _ _).mono ?_
   rintro e w2 ⟨⟨b,rfl,-⟩,rfl⟩
   cases b
   ·go_wp2_with fail
    refine (scont_any _ _ _).mono ?_
    rintro e w2 ⟨⟨b,rfl,-⟩,rfl⟩
    go_wp2_with fail
    go_meet
    case rel=>exact ⟨rfl,_,rfl⟩
   ·go_wp2_with fail
    go_meet
    case rel=>exact ⟨rfl,_,rfl⟩
  case rest =>
   obtain ⟨rfl,b,rfl⟩:=hcut
   obtain ⟨wA,rfl⟩:∃ wA:World,wA=wc:=⟨_,rfl⟩
   go_upto_if 99 with fail
   go_cut [11,12,13] (fun _ _ _ wx=>Below wA.heap.size wA wx)
   case first =>
    cases b
    ·go_wp2_with fail
     go_meet
     case rel=>exact Below.refl _ _
    ·go_wp2_with fail
     refine (validS_any _ (Nat.le_trans (ext_le _ _ _) (by omega)) _ HU.out).mono ?_
     rintro e w2 ⟨⟨v,rfl⟩,hb2⟩
     have HB2:Hid (Below wA.heap.size wA w2):=hb2
     clear hb2
     cases v
     ·go_wp2_with fail
      go_meet
      case rel=>exact HB2.out
     ·go_wp2_with fail
      go_quiet (fail)
      go_wp2_with fail
      (try simp only [Exit.inBlock,Exit.then])
      refine bodyPost_ret (results_three' rfl _ _ _) rfl ?_
      exact ⟨UnO.text _ _ _ (by rw [ByteArray.size_extract,ByteArray.size_extract];omega),below_drewN HB2.out _⟩
   case rest =>
    have HB1:Hid (Below wA.heap.size wA wc):=hcut
    clear hcut
    obtain ⟨wD,rfl⟩:∃ wD:World,wD=wc:=⟨_,rfl⟩
    have HTD:Hid (Tbr wD):=HT.out.below HB1.out
    have HUD:Hid (Lib.Utf8Tabs 5 6 wD):=Utf8Tabs_below HU.out HB1.out
    obtain ⟨te,pe,he⟩:=HTD.out.s
    obtain ⟨B,hB⟩:∃ B,B=wA.heap.size:=⟨_,rfl⟩
    have HB:Hid (B=wA.heap.size):=hB
    have hBD:B≤wD.heap.size:=by rw [hB];exact HB1.out.size
    have hcp:3*((k:Int)+2) / 2=((3*(k+2) / 2:Nat):Int):=by omega
    have hw3:wrap64 (3*((k:Int)+2))=3*((k:Int)+2):=by unfold wrap64;omega
    go_wp2_with (first
     | (at_make;refine wpList_make_own _ rfl _ _ 164 rfl B 5 i0 (.int .u8 0) 1 hs164 hi0 hz0 hz1 _ _ _ (3*(k+2) / 2) rfl rfl (by first | rfl | assumption | omega) (by rw [hz2];omega) (by unfold maxLen;omega) hBD ?_;intro w3 hown hg))
    have HB0:Hid (Lib.OwnBuf B 5 (.slice (some ⟨wD.heap.size,0,none⟩) 0 (3*(k+2) / 2)) 0 [] wA w3):=⟨World.ownsRowF_of hown,by rw [hB];exact HB1.out.grown hg HB1.out.size (by intro k hk;cases hk),Nat.le_trans hBD hg.size⟩
    clear hB HB1 hw hk1 hk0 hc hown hg hcp hw3
    go_wp2_with fail
    go_loopw [0,14] (fun v0 v14 wr=>∃ (t:ByteArray) (acc:List Int),v0=.string t∧t.size+1≤s.size∧acc.length+4*t.size≤4*s.size∧Hid (Lib.OwnBuf B 5 v14 acc.length (Lib.intCells acc) wA wr)) (fun v0 _ _=>match v0 with | .string r=>r.size | _=>0)
    case atStart=>exact ⟨_,[],rfl,by rw [Lib.size_rest];omega,by rw [Lib.size_rest];simp;omega,HB0⟩
    case round =>
     obtain ⟨t,acc,rfl,ht,hal,hbr⟩:=hrel
     have HBr:Hid (Below wA.heap.size wA wr):=by have:=hbr.out.2.1;rwa [HB.out] at this
     have HTr:Hid (Tbr wr):=HT.out.below HBr.out
     have HUr:Hid (Lib.Utf8Tabs 5 6 wr):=Utf8Tabs_below HU.out HBr.out
     obtain ⟨te,pe,he⟩:=HTr.out.s
     by_cases h0:t.size=0
     ·have h0I:¬ (0:Int)<(t.size:Int):=by omega
      go_wp2_with fail
      go_quiet (fail)
      go_wp2_with fail
      (try simp only [Exit.inBlock,Exit.then])
      refine bodyPost_ret (results_three' rfl _ _ _) rfl ?_
      exact ⟨UnO.err _ _ _ _ _,below_drewN HBr.out _⟩
     ·have h0I:(0:Int)<(t.size:Int):=by omega
      by_cases hq:(t[0]'(by omega)).toNat=34
      ·have hqI:((t[0]'(by omega)).toNat:Int)=34:=by omega
       have h1I:(1:Int)≤(t.size:Int):=by omega
       clear hq
       obtain ⟨o,p,c,rfl,ho,hcv⟩:=bufStr hbr.out
       go_wp2_with fail
       (try simp only [Exit.inBlock,Exit.then])
       refine bodyPost_ret (results_three' rfl _ _ _) rfl ?_
       exact ⟨UnO.text _ _ _ (by omega),HBr.out⟩
      ·have hqI:(((t[0]'(by omega)).toNat:Int) == 34)=false:=beq_eq_false_iff_ne.mpr (by omega)
       have hqJ:((t[0]'(by omega)).toNat:Int)≠34:=by omega
       clear hq
       go_wp2_with fail
       refine (uqc_any t 34 (.inl rfl) _ HTr.out HUr.out).mono ?_
       rintro e w2 ⟨⟨v,m,r,er,rfl,her⟩,hb2⟩
       have HBs:Hid (Below wA.heap.size wA w2):=HBr.out.trans (hb2.mono HBr.out.size)
       have HTs:Hid (Tbr w2):=HT.out.below HBs.out
       have hbs:Lib.OwnBuf B 5 u14 acc.length (Lib.intCells acc) wA w2:=ownbuf_below hbr.out hb2
       have Hbs:Hid (Lib.OwnBuf B 5 u14 acc.length (Lib.intCells acc) wA w2):=hbs
       obtain ⟨te,pe,he⟩:=HTs.out.s
       clear hbs hbr hb2
       by_cases hn:(t[0]'(by omega)).toNat=10
       ·have hnI:((t[0]'(by omega)).toNat:Int)=10:=by omega
        clear her hn
        go_wp2_with fail
        go_quiet (fail)
        go_wp2_with fail
        (try simp only [Exit.inBlock,Exit.then])
        refine bodyPost_ret (results_three' rfl _ _ _) rfl ?_
        exact ⟨UnO.err _ _ _ _ _,below_drewN HBs.out _⟩
       ·have hnI:(((t[0]'(by omega)).toNat:Int) == 10)=false:=beq_eq_false_iff_ne.mpr (by omega)
        have hnJ:((t[0]'(by omega)).toNat:Int)≠10:=by omega
        clear hn
        rcases her with ⟨t2,p2,rfl⟩ | ⟨rfl,hrs,hv0,hv1⟩
        ·go_wp2_with fail
         go_quiet (fail)
         go_wp2_with fail
         (try simp only [Exit.inBlock,Exit.then])
         refine bodyPost_ret (results_three' rfl _ _ _) rfl ?_
         exact ⟨UnO.err _ _ _ _ _,below_drewN HBs.out _⟩
        ·have hvb:Hid (Lib.OwnBuf B 5 u14 acc.length (Lib.intCells acc) wA w2):=Hbs
         by_cases hsm:v<128∨m=false
         ·have hb:=Hbs.out
          have hsm':Hid (v<128∨m=false):=hsm
          have hpick:(decide (v<128) || !m)=true:=by rcases hsm with h | h <;> simp [h]
          by_cases hv:v<128
          ·go_big_wp2_with (at_builtin;refine Lib.wpList_append_byte rfl _ _ 164 rfl B 5 i0 hs164 hi0 hz0 hz1 hz2 _ _ _ rfl wA _ _ (by assumption) rfl (by omega) ?_;intro _ _ hb)
           go_roundw
           case rel=>exact ⟨r,acc++[_],rfl,by omega,by simp;omega,by simpa [Hid,Lib.intCells] using hb⟩
           case measure=>exact hrs
          ·have hm:m=false:=hsm.resolve_left hv
           subst hm
           go_big_wp2_with (at_builtin;refine Lib.wpList_append_byte rfl _ _ 164 rfl B 5 i0 hs164 hi0 hz0 hz1 hz2 _ _ _ rfl wA _ _ (by assumption) rfl (by omega) ?_;intro _ _ hb)
           go_roundw
           case rel=>exact ⟨r,acc++[_],rfl,by omega,by simp;omega,by simpa [Hid,Lib.intCells] using hb⟩
           case measure=>exact hrs
         ·have hv:¬ v<128:=fun h=>hsm (.inl h)
          have hm:m=true:=by cases m;exact absurd (.inr rfl) hsm;rfl
          subst hm
          clear hsm
          have Hap:Hid (Calls Tryz.prog 312 #[u14,.int .i32 v] w2 fun e w'=>∃ v',e=.returned v'∧w'.ownsRowF B 5 1 v' (acc.length+(Lib.runeCells v).length) (Lib.intCells acc++Lib.runeCells v)∧∃ o,(w2.alloc o).grownBy w' u14.ownBlock):=appendRune_any B u14 acc.length (Lib.intCells acc) v hv0 hv1 w2 Hbs.out.1 (by omega) Hbs.out.2.2
          go_wp2_with fail
          refine Hap.out.mono ?_
          rintro e w3 ⟨v',rfl,ho3,o3,hg3⟩
          have H3:Hid (Lib.OwnBuf B 5 v' (acc++Lib.encodeRuneZ v).length (Lib.intCells (acc++Lib.encodeRuneZ v)) wA w3):=ownbuf_rune Hbs.out ho3 hg3
          have hl4:=Lib.runeCells_le v
          have hl5:(Lib.runeCells v).length=(Lib.encodeRuneZ v).length:=by simp [Lib.runeCells]
          clear ho3 hg3
          go_wp2_with fail
          go_roundw
          case rel=>exact ⟨r,acc++Lib.encodeRuneZ v,rfl,by omega,by simp;omega,H3⟩
          case measure=>exact hrs
end Go.Proofs.YtcmgclckknpecaaGreatDoor
namespace Go.Proofs.YtcmgclckknpecaaGreatDoor
open Go.RowKit Go.Shelf
set_option maxRecDepth 100000 in
set_option maxHeartbeats 8000000 in
theorem unq_str39t (s:ByteArray) (hsz:s.size≤1000000000000) (w:World) (hT:Tbr w) (hU:Lib.Utf8Tabs 5 6 w) (h0:2≤s.size) (hc0:(s[0]'(by omega)).toNat=39):Calls Tryz.prog 357 #[.string s,.bool true] w fun e w'=>UnO true s e∧Below w.heap.size w w':=by
 obtain ⟨i0,hi0,hz0,hz1,hz2⟩:=info5
 have hs164:=u164
 obtain ⟨te,pe,he⟩:=hT.s
 have h1:¬ (s.size:Int)<2:=by omega
 have h2:(0:Int)<(s.size:Int):=by omega
 have h3:(1:Int)≤(s.size:Int):=by omega
 have hc:((s[0]'(by omega)).toNat:Int)=39:=by omega
 have HT:Hid (Tbr w):=hT
 have HU:Hid (Lib.Utf8Tabs 5 6 w):=hU
 clear hc0 hT hU
 go_enter Tryz.func357,Tryz.ntmps357
 go_wp2_with fail
 refine (sidx_any _ _ _).mono ?_
 rintro e w1 ⟨⟨i,rfl,hi1,hi2,-⟩,rfl⟩
 rw [Lib.size_rest] at hi2
 by_cases hi:i<0
 ·go_wp2_with fail
  go_quiet (fail)
  go_wp2_with fail
  (try simp only [Exit.inBlock,Exit.then])
  refine bodyPost_ret (results_three' rfl _ _ _) rfl ?_
  exact ⟨UnO.err _ _ _ _ _,⟨rfl,rfl,rfl,Nat.le_refl _,fun _ _=>rfl⟩⟩
 ·obtain ⟨k,rfl⟩:∃ k:Nat,i=(k:Int):=⟨i.toNat,by omega⟩
  have hw:wrap64 ((k:Int)+2)=((k+2:Nat):Int):=by unfold wrap64;omega
  have hk1:((k+2:Nat):Int)≤(s.size:Int):=by omega
  have hk0:(0:Int)≤((k+2:Nat):Int):=by omega
  go_upto_region 25 with fail
  go_cut [99] (fun s99 wx=>wx=w1∧∃ b:Bool,s99=.bool b)
  case first =>
   go_wp2_with fail
   refine (scont_any _ _ _).mono ?_
   rintro e w2 ⟨⟨b,rfl,-⟩,rfl⟩
   cases b
   ·go_wp2_with fail
    refine (scont_any _ _ _).mono ?_
    rintro e w2 ⟨⟨b,rfl,-⟩,rfl⟩
    go_wp2_with fail
    go_meet
    case rel=>exact ⟨rfl,_,rfl⟩
   ·go_wp2_with fail
    go_meet
    case rel=>exact ⟨rfl,_,rfl⟩
  case rest =>
   obtain ⟨rfl,b,rfl⟩:=hcut
   obtain ⟨wA,rfl⟩:∃ wA:World,wA=wc:=⟨_,rfl⟩
   go_upto_if 99 with fail
   go_cut [11,12,13] (fun _ _ _ wx=>Below wA.heap.size wA wx)
   case first =>
    cases b
    ·go_wp2_with fail
     go_meet
     case rel=>exact Below.refl _ _
    ·go_wp2_with fail
     obtain ⟨T,hT⟩:∃ T,T=s.extract 1 (k+1):=⟨_,rfl⟩
     obtain ⟨R,hR⟩:∃ R,R=(Lib.decodeGo T).1:=⟨_,rfl⟩
     obtain ⟨K,hK⟩:∃ K,K=(Lib.decodeGo T).2:=⟨_,rfl⟩
     have hK2:K≤1000000000000:=by
      have hTs:T.size≤s.size:=by rw [hT];exact ext_le _ _ _
      by_cases h:T.size=0
      ·rw [hK];simp [Lib.decodeGo,h]
      ·have:=Lib.width_le (s:=T) (by omega)
       rw [hK];simp only [Lib.decodeGo,if_neg h];omega
     have cD:Calls Tryz.prog 348 #[.string (s.extract 1 (k+1))] wA fun e w'=>e=.returned (.tuple #[.int .i32 R,.int .i64 K])∧Below wA.heap.size wA w':=by
      have:=dec_any T wA HU.out
      rw [hR,hK]
      rwa [hT] at this ⊢
     refine cD.mono ?_
     rintro e w2 ⟨rfl,hb2⟩
     have HB2:Hid (Below wA.heap.size wA w2):=hb2
     clear hb2 cD hR hK hT
     by_cases hE:(1:Int)+(K:Int)+1=(k:Int)+2
     ·by_cases hV:(R:Int)=65533
      ·by_cases hW:(K:Int)=1
       ·have e1:((1:Int)+(K:Int)+1 == (k:Int)+2)=true:=by rw [hE];simp
        have e2:((R:Int) == 65533)=true:=by rw [hV];rfl
        have e3:((K:Int) == 1)=true:=by rw [hW];rfl
        go_wp2_with fail
        go_meet
        case rel=>exact HB2.out
       ·have e1:((1:Int)+(K:Int)+1 == (k:Int)+2)=true:=by rw [hE];simp
        have e2:((R:Int) == 65533)=true:=by rw [hV];rfl
        have e3:((K:Int) == 1)=false:=beq_eq_false_iff_ne.mpr hW
        go_wp2_with fail
        go_quiet (fail)
        go_wp2_with fail
        (try simp only [Exit.inBlock,Exit.then])
        refine bodyPost_ret (results_three' rfl _ _ _) rfl ?_
        exact ⟨UnO.text _ _ _ (by rw [ByteArray.size_extract,ByteArray.size_extract];omega),below_drewN HB2.out _⟩
      ·have e1:((1:Int)+(K:Int)+1 == (k:Int)+2)=true:=by rw [hE];simp
       have e2:((R:Int) == 65533)=false:=beq_eq_false_iff_ne.mpr hV
       go_wp2_with fail
       go_quiet (fail)
       go_wp2_with fail
       (try simp only [Exit.inBlock,Exit.then])
       refine bodyPost_ret (results_three' rfl _ _ _) rfl ?_
       exact ⟨UnO.text _ _ _ (by rw [ByteArray.size_extract,ByteArray.size_extract];omega),below_drewN HB2.out _⟩
     ·have e1:((1:Int)+(K:Int)+1 == (k:Int)+2)=false:=beq_eq_false_iff_ne.mpr hE
      go_wp2_with fail
      go_meet
      case rel=>exact HB2.out
   case rest =>
    have HB1:Hid (Below wA.heap.size wA wc):=hcut
    clear hcut
    obtain ⟨wD,rfl⟩:∃ wD:World,wD=wc:=⟨_,rfl⟩
    have HTD:Hid (Tbr wD):=HT.out.below HB1.out
    have HUD:Hid (Lib.Utf8Tabs 5 6 wD):=Utf8Tabs_below HU.out HB1.out
    obtain ⟨te,pe,he⟩:=HTD.out.s
    obtain ⟨B,hB⟩:∃ B,B=wA.heap.size:=⟨_,rfl⟩
    have HB:Hid (B=wA.heap.size):=hB
    have hBD:B≤wD.heap.size:=by rw [hB];exact HB1.out.size
    have hcp:3*((k:Int)+2) / 2=((3*(k+2) / 2:Nat):Int):=by omega
    have hw3:wrap64 (3*((k:Int)+2))=3*((k:Int)+2):=by unfold wrap64;omega
    go_wp2_with (first
     | (at_make;refine wpList_make_own _ rfl _ _ 164 rfl B 5 i0 (.int .u8 0) 1 hs164 hi0 hz0 hz1 _ _ _ (3*(k+2) / 2) rfl rfl (by first | rfl | assumption | omega) (by rw [hz2];omega) (by unfold maxLen;omega) hBD ?_;intro w3 hown hg))
    have HB0:Hid (Lib.OwnBuf B 5 (.slice (some ⟨wD.heap.size,0,none⟩) 0 (3*(k+2) / 2)) 0 [] wA w3):=⟨World.ownsRowF_of hown,by rw [hB];exact HB1.out.grown hg HB1.out.size (by intro k hk;cases hk),Nat.le_trans hBD hg.size⟩
    clear hB HB1 hw hk1 hk0 hc hown hg hcp hw3
    go_wp2_with fail
    go_loopw [0,14] (fun v0 v14 wr=>∃ (t:ByteArray) (acc:List Int),v0=.string t∧t.size+1≤s.size∧acc.length+4*t.size≤4*s.size∧Hid (Lib.OwnBuf B 5 v14 acc.length (Lib.intCells acc) wA wr)) (fun v0 _ _=>match v0 with | .string r=>r.size | _=>0)
    case atStart=>exact ⟨_,[],rfl,by rw [Lib.size_rest];omega,by rw [Lib.size_rest];simp;omega,HB0⟩
    case round =>
     obtain ⟨t,acc,rfl,ht,hal,hbr⟩:=hrel
     have HBr:Hid (Below wA.heap.size wA wr):=by have:=hbr.out.2.1;rwa [HB.out] at this
     have HTr:Hid (Tbr wr):=HT.out.below HBr.out
     have HUr:Hid (Lib.Utf8Tabs 5 6 wr):=Utf8Tabs_below HU.out HBr.out
     obtain ⟨te,pe,he⟩:=HTr.out.s
     by_cases h0:t.size=0
     ·have h0I:¬ (0:Int)<(t.size:Int):=by omega
      go_wp2_with fail
      go_quiet (fail)
      go_wp2_with fail
      (try simp only [Exit.inBlock,Exit.then])
      refine bodyPost_ret (results_three' rfl _ _ _) rfl ?_
      exact ⟨UnO.err _ _ _ _ _,below_drewN HBr.out _⟩
     ·have h0I:(0:Int)<(t.size:Int):=by omega
      by_cases hq:(t[0]'(by omega)).toNat=39
      ·have hqI:((t[0]'(by omega)).toNat:Int)=39:=by omega
       have h1I:(1:Int)≤(t.size:Int):=by omega
       clear hq
       obtain ⟨o,p,c,rfl,ho,hcv⟩:=bufStr hbr.out
       go_wp2_with fail
       (try simp only [Exit.inBlock,Exit.then])
       refine bodyPost_ret (results_three' rfl _ _ _) rfl ?_
       exact ⟨UnO.text _ _ _ (by omega),HBr.out⟩
      ·have hqI:(((t[0]'(by omega)).toNat:Int) == 39)=false:=beq_eq_false_iff_ne.mpr (by omega)
       have hqJ:((t[0]'(by omega)).toNat:Int)≠39:=by omega
       clear hq
       go_wp2_with fail
       refine (uqc_any t 39 (.inr rfl) _ HTr.out HUr.out).mono ?_
       rintro e w2 ⟨⟨v,m,r,er,rfl,her⟩,hb2⟩
       have HBs:Hid (Below wA.heap.size wA w2):=HBr.out.trans (hb2.mono HBr.out.size)
       have HTs:Hid (Tbr w2):=HT.out.below HBs.out
       have hbs:Lib.OwnBuf B 5 u14 acc.length (Lib.intCells acc) wA w2:=ownbuf_below hbr.out hb2
       have Hbs:Hid (Lib.OwnBuf B 5 u14 acc.length (Lib.intCells acc) wA w2):=hbs
       obtain ⟨te,pe,he⟩:=HTs.out.s
       clear hbs hbr hb2
       by_cases hn:(t[0]'(by omega)).toNat=10
       ·have hnI:((t[0]'(by omega)).toNat:Int)=10:=by omega
        clear her hn
        go_wp2_with fail
        go_quiet (fail)
        go_wp2_with fail
        (try simp only [Exit.inBlock,Exit.then])
        refine bodyPost_ret (results_three' rfl _ _ _) rfl ?_
        exact ⟨UnO.err _ _ _ _ _,below_drewN HBs.out _⟩
       ·have hnI:(((t[0]'(by omega)).toNat:Int) == 10)=false:=beq_eq_false_iff_ne.mpr (by omega)
        have hnJ:((t[0]'(by omega)).toNat:Int)≠10:=by omega
        clear hn
        rcases her with ⟨t2,p2,rfl⟩ | ⟨rfl,hrs,hv0,hv1⟩
        ·go_wp2_with fail
         go_quiet (fail)
         go_wp2_with fail
         (try simp only [Exit.inBlock,Exit.then])
         refine bodyPost_ret (results_three' rfl _ _ _) rfl ?_
         exact ⟨UnO.err _ _ _ _ _,below_drewN HBs.out _⟩
        ·go_upto_if 179 with fail
         go_cut [14] (fun s14 wx=>∃ acc2:List Int,Hid (Lib.OwnBuf B 5 s14 acc2.length (Lib.intCells acc2) wA wx)∧acc2.length+4*r.size≤4*s.size)
         case first =>
          have hvb:Hid (Lib.OwnBuf B 5 u14 acc.length (Lib.intCells acc) wA w2):=Hbs
          by_cases hsm:v<128∨m=false
          ·have hb:=Hbs.out
           have hsm':Hid (v<128∨m=false):=hsm
           have hpick:(decide (v<128) || !m)=true:=by rcases hsm with h | h <;> simp [h]
           by_cases hv:v<128
           ·go_big_wp2_with (at_builtin;refine Lib.wpList_append_byte rfl _ _ 164 rfl B 5 i0 hs164 hi0 hz0 hz1 hz2 _ _ _ rfl wA _ _ (by assumption) rfl (by omega) ?_;intro _ _ hb)
            go_meet
            case rel=>exact ⟨acc++[_],by simpa [Hid,Lib.intCells] using hb,by simp;omega⟩
           ·have hm:m=false:=hsm.resolve_left hv
            subst hm
            go_big_wp2_with (at_builtin;refine Lib.wpList_append_byte rfl _ _ 164 rfl B 5 i0 hs164 hi0 hz0 hz1 hz2 _ _ _ rfl wA _ _ (by assumption) rfl (by omega) ?_;intro _ _ hb)
            go_meet
            case rel=>exact ⟨acc++[_],by simpa [Hid,Lib.intCells] using hb,by simp;omega⟩
          ·have hv:¬ v<128:=fun h=>hsm (.inl h)
           have hm:m=true:=by cases m;exact absurd (.inr rfl) hsm;rfl
           subst hm
           clear hsm
           have Hap:Hid (Calls Tryz.prog 312 #[u14,.int .i32 v] w2 fun e w'=>∃ v',e=.returned v'∧w'.ownsRowF B 5 1 v' (acc.length+(Lib.runeCells v).length) (Lib.intCells acc++Lib.runeCells v)∧∃ o,(w2.alloc o).grownBy w' u14.ownBlock):=appendRune_any B u14 acc.length (Lib.intCells acc) v hv0 hv1 w2 Hbs.out.1 (by omega) Hbs.out.2.2
           go_wp2_with fail
           refine Hap.out.mono ?_
           rintro e w3 ⟨v',rfl,ho3,o3,hg3⟩
           have H3:Hid (Lib.OwnBuf B 5 v' (acc++Lib.encodeRuneZ v).length (Lib.intCells (acc++Lib.encodeRuneZ v)) wA w3):=ownbuf_rune Hbs.out ho3 hg3
           have hl4:=Lib.runeCells_le v
           have hl5:(Lib.runeCells v).length=(Lib.encodeRuneZ v).length:=by simp [Lib.runeCells]
           clear ho3 hg3
           go_wp2_with fail
           go_meet
           case rel=>exact ⟨acc++Lib.encodeRuneZ v,H3,by simp;omega⟩
         case rest =>
          obtain ⟨acc2,H2,hl2⟩:=hcut
          have HBx:Hid (Below wA.heap.size wA wc):=by have:=H2.out.2.1;rwa [HB.out] at this
          have HTx:Hid (Tbr wc):=HT.out.below HBx.out
          obtain ⟨te,pe,he⟩:=HTx.out.s
          clear Hbs
          by_cases hr0:r.size=0
          ·have hr0I:¬ (0:Int)<(r.size:Int):=by omega
           go_wp2_with fail
           go_quiet (fail)
           go_wp2_with fail
           (try simp only [Exit.inBlock,Exit.then])
           refine bodyPost_ret (results_three' rfl _ _ _) rfl ?_
           exact ⟨UnO.err _ _ _ _ _,below_drewN HBx.out _⟩
          ·have hr0I:(0:Int)<(r.size:Int):=by omega
           have hr1I:(1:Int)≤(r.size:Int):=by omega
           by_cases hrq:(r[0]'(by omega)).toNat=39
           ·have hrI:((r[0]'(by omega)).toNat:Int)=39:=by omega
            obtain ⟨o,p,c,rfl,ho,hcv⟩:=bufStr H2.out
            clear hrq
            go_wp2_with fail
            (try simp only [Exit.inBlock,Exit.then])
            refine bodyPost_ret (results_three' rfl _ _ _) rfl ?_
            exact ⟨UnO.text _ _ _ (by omega),HBx.out⟩
           ·have hrI:(((r[0]'(by omega)).toNat:Int) == 39)=false:=beq_eq_false_iff_ne.mpr (by omega)
            have hrJ:((r[0]'(by omega)).toNat:Int)≠39:=by omega
            clear hrq
            go_wp2_with fail
            go_quiet (fail)
            go_wp2_with fail
            (try simp only [Exit.inBlock,Exit.then])
            refine bodyPost_ret (results_three' rfl _ _ _) rfl ?_
            exact ⟨UnO.err _ _ _ _ _,below_drewN HBx.out _⟩
end Go.Proofs.YtcmgclckknpecaaGreatDoor
