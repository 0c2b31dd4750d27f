import Derived.Test.YtcmgclckknpecaaGreatDoorProg
import Derived.Test.YtcmgclckknpecaaGreatDoorKaj
import Derived.Shelf.SlIterI.Nil
import Derived.Shelf.SortM.Plain
import Derived.Shelf.SortM.SortNone
import Derived.WalkKit
import Derived.Test.YtcmgclckknpecaaGreatDoorKag
namespace Go.Proofs.YtcmgclckknpecaaGreatDoor
open Go.RowKit Go.Maps Go.Sort Go.Shelf
def keysA_ren:Go.Shelf.Ren:=⟨fun | 7=>49 | 10=>102 | n=>n,fun | 23=>154 | 26=>3 | 3=>63 | 28=>152 | 0=>0 | 27=>151 | 33=>158 | 4=>4 | n=>n,fun | n=>n⟩
theorem keysA:Go.Proofs.SlLaysZI.n7 Tryz.prog keysA_ren:={
 mixed:=by kernel_rfl
 f7:=⟨Tryz.f49.name,by decide,Tryz.func49.trans (congrArg some (by kernel_rfl))⟩
 f10:=⟨Tryz.f102.name,by decide,Tryz.func102.trans (congrArg some (by kernel_rfl))⟩
 t0:=Tryz.underlying0
 a0:=Tryz.isAgg0
 z0:=Tryz.sizeOf0
 v0:=Tryz.zeroValue0
 t4:=Tryz.underlying4
 a4:=Tryz.isAgg4
 z4:=Tryz.sizeOf4
 v4:=Tryz.zeroValue4
 t23:=Tryz.underlying154
 a23:=Tryz.isAgg154
 z23:=Tryz.sizeOf154
 v23:=Tryz.zeroValue154
 t26:=Tryz.underlying3
 a26:=Tryz.isAgg3
 z26:=Tryz.sizeOf3
 v26:=Tryz.zeroValue3
 t27:=Tryz.underlying151
 a27:=Tryz.isAgg151
 z27:=Tryz.sizeOf151
 v27:=Tryz.zeroValue151
 t28:=Tryz.underlying152
 a28:=Tryz.isAgg152
 z28:=Tryz.sizeOf152
 v28:=Tryz.zeroValue152
 t33:=Tryz.underlying158
 a33:=Tryz.isAgg158
 z33:=Tryz.sizeOf158
 v33:=Tryz.zeroValue158 }
def sortedA_ren:Go.Shelf.Ren:=⟨fun | 6=>57 | 8=>48 | 9=>117 | 11=>101 | 13=>173 | 12=>175 | 23=>264 | 24=>265 | 14=>266 | 15=>267 | 16=>268 | 17=>269 | 18=>270 | 19=>271 | 20=>272 | 21=>273 | 22=>274 | 25=>341 | 26=>337 | 27=>338 | 28=>342 | 29=>343 | 30=>171 | 31=>381 | n=>n,fun | 26=>3 | 28=>152 | 24=>55 | 0=>0 | 3=>3 | 37=>344 | 48=>104 | 50=>326 | 4=>4 | 40=>402 | 39=>401 | 45=>406 | 5=>5 | 9=>9 | 51=>453 | 55=>456 | 57=>487 | 58=>40 | 33=>158 | n=>n,fun | n=>n⟩
theorem sortedA:Go.Proofs.SlLaysZI.n6 Tryz.prog sortedA_ren:={
 mixed:=by kernel_rfl
 f6:=⟨Tryz.f57.name,by decide,Tryz.func57.trans (congrArg some (by kernel_rfl))⟩
 f8:=⟨Tryz.f48.name,by decide,Tryz.func48.trans (congrArg some (by kernel_rfl))⟩
 f11:=⟨Tryz.f101.name,by decide,Tryz.func101.trans (congrArg some (by kernel_rfl))⟩
 t0:=Tryz.underlying0
 a0:=Tryz.isAgg0
 z0:=Tryz.sizeOf0
 v0:=Tryz.zeroValue0
 t24:=Tryz.underlying55
 a24:=Tryz.isAgg55
 z24:=Tryz.sizeOf55
 v24:=Tryz.zeroValue55
 t26:=Tryz.underlying3
 a26:=Tryz.isAgg3
 z26:=Tryz.sizeOf3
 v26:=Tryz.zeroValue3
 t28:=Tryz.underlying152
 a28:=Tryz.isAgg152
 z28:=Tryz.sizeOf152
 v28:=Tryz.zeroValue152
 i26:=by kernel_rfl }
def sortA_ren:Go.Shelf.Ren:=⟨fun | 5=>117 | 8=>173 | 7=>175 | 19=>264 | 20=>265 | 10=>266 | 11=>267 | 12=>268 | 13=>269 | 14=>270 | 15=>271 | 16=>272 | 17=>273 | 18=>274 | 30=>341 | 31=>337 | 32=>338 | 33=>342 | 34=>343 | 35=>171 | 40=>381 | n=>n,fun | 23=>55 | 25=>3 | 3=>3 | 32=>344 | 22=>55 | 0=>0 | 44=>104 | 46=>326 | 4=>4 | 36=>402 | 35=>401 | 41=>406 | 5=>5 | 9=>9 | 53=>453 | 57=>456 | 63=>487 | 64=>40 | n=>n,fun | n=>n⟩
theorem sortA:Go.Proofs.SlLaysM.n5 Tryz.prog sortA_ren:={
 mixed:=by kernel_rfl
 f5:=⟨Tryz.f117.name,by decide,Tryz.func117.trans (congrArg some (by kernel_rfl))⟩
 f7:=⟨Tryz.f175.name,by decide,Tryz.func175.trans (congrArg some (by kernel_rfl))⟩
 f8:=Tryz.func173.trans (congrArg some (by kernel_rfl))
 f10:=⟨Tryz.f266.name,by decide,Tryz.func266.trans (congrArg some (by kernel_rfl))⟩
 f11:=⟨Tryz.f267.name,by decide,Tryz.func267.trans (congrArg some (by kernel_rfl))⟩
 f12:=⟨Tryz.f268.name,by decide,Tryz.func268.trans (congrArg some (by kernel_rfl))⟩
 f13:=⟨Tryz.f269.name,by decide,Tryz.func269.trans (congrArg some (by kernel_rfl))⟩
 f14:=⟨Tryz.f270.name,by decide,Tryz.func270.trans (congrArg some (by kernel_rfl))⟩
 f15:=⟨Tryz.f271.name,by decide,Tryz.func271.trans (congrArg some (by kernel_rfl))⟩
 f16:=⟨Tryz.f272.name,by decide,Tryz.func272.trans (congrArg some (by kernel_rfl))⟩
 f17:=⟨Tryz.f273.name,by decide,Tryz.func273.trans (congrArg some (by kernel_rfl))⟩
 f18:=⟨Tryz.f274.name,by decide,Tryz.func274.trans (congrArg some (by kernel_rfl))⟩
 f19:=Tryz.func264.trans (congrArg some (by kernel_rfl))
 f20:=Tryz.func265.trans (congrArg some (by kernel_rfl))
 f30:=⟨Tryz.f341.name,by decide,Tryz.func341.trans (congrArg some (by kernel_rfl))⟩
 f31:=Tryz.func337.trans (congrArg some (by kernel_rfl))
 f32:=Tryz.func338.trans (congrArg some (by kernel_rfl))
 f33:=⟨Tryz.f342.name,by decide,Tryz.func342.trans (congrArg some (by kernel_rfl))⟩
 f34:=⟨Tryz.f343.name,by decide,Tryz.func343.trans (congrArg some (by kernel_rfl))⟩
 f35:=⟨Tryz.f171.name,by decide,Tryz.func171.trans (congrArg some (by kernel_rfl))⟩
 f40:=⟨Tryz.f381.name,by decide,Tryz.func381.trans (congrArg some (by kernel_rfl))⟩
 t0:=Tryz.underlying0
 a0:=Tryz.isAgg0
 z0:=Tryz.sizeOf0
 v0:=Tryz.zeroValue0
 t3:=Tryz.underlying3
 a3:=Tryz.isAgg3
 z3:=Tryz.sizeOf3
 v3:=Tryz.zeroValue3
 t4:=Tryz.underlying4
 a4:=Tryz.isAgg4
 z4:=Tryz.sizeOf4
 v4:=Tryz.zeroValue4
 t5:=Tryz.underlying5
 a5:=Tryz.isAgg5
 z5:=Tryz.sizeOf5
 v5:=Tryz.zeroValue5
 t9:=Tryz.underlying9
 a9:=Tryz.isAgg9
 z9:=Tryz.sizeOf9
 v9:=Tryz.zeroValue9
 t22:=Tryz.underlying55
 a22:=Tryz.isAgg55
 z22:=Tryz.sizeOf55
 v22:=Tryz.zeroValue55
 t23:=Tryz.underlying55
 a23:=Tryz.isAgg55
 z23:=Tryz.sizeOf55
 v23:=Tryz.zeroValue55
 t25:=Tryz.underlying3
 a25:=Tryz.isAgg3
 z25:=Tryz.sizeOf3
 v25:=Tryz.zeroValue3
 t32:=Tryz.underlying344
 a32:=Tryz.isAgg344
 z32:=Tryz.sizeOf344
 v32:=Tryz.zeroValue344
 t35:=Tryz.underlying401
 a35:=Tryz.isAgg401
 z35:=Tryz.sizeOf401
 v35:=Tryz.zeroValue401
 t36:=Tryz.underlying402
 a36:=Tryz.isAgg402
 z36:=Tryz.sizeOf402
 v36:=Tryz.zeroValue402
 t41:=Tryz.underlying406
 a41:=Tryz.isAgg406
 z41:=Tryz.sizeOf406
 v41:=Tryz.zeroValue406
 t44:=Tryz.underlying104
 a44:=Tryz.isAgg104
 z44:=Tryz.sizeOf104
 v44:=Tryz.zeroValue104
 t46:=Tryz.underlying326
 a46:=Tryz.isAgg326
 z46:=Tryz.sizeOf326
 v46:=Tryz.zeroValue326
 t53:=Tryz.underlying453
 a53:=Tryz.isAgg453
 z53:=Tryz.sizeOf453
 v53:=Tryz.zeroValue453
 t57:=Tryz.underlying456
 a57:=Tryz.isAgg456
 z57:=Tryz.sizeOf456
 v57:=Tryz.zeroValue456
 t63:=Tryz.underlying487
 a63:=Tryz.isAgg487
 z63:=Tryz.sizeOf487
 v63:=Tryz.zeroValue487
 t64:=Tryz.underlying40
 a64:=Tryz.isAgg40
 z64:=Tryz.sizeOf40
 v64:=Tryz.zeroValue40 }
theorem sorts_any (m:Nat):AnyZI.SortsIn Tryz.prog sortedA_ren Fence.wide m :=
 ⟨fun blk off cap ss W hH hblk hsz => callsIn_wide.2 (AnyM.slices_Sort_int sortA blk off cap ss W hH hblk hsz),
  fun p cap W => callsIn_wide.2 (AnyM.slices_Sort_int_none sortA p cap W)⟩
theorem keys_any (mb:Option Nat) (W:World):Calls Tryz.prog 49 #[.map mb] W fun e w'=>e=.returned (.func (.func 102) #[] #[.pointer (some ⟨W.heap.size,0,none⟩)])∧w'=W.alloc (.cells #[.map mb] 154) :=
 (callsIn_wide (n:=5)).1 (AnyZI.keys_in keysA Fence.wide 5 trivial rfl mb W)
theorem sorted_any (m nn:Nat) (D:DataW Value) (w:World) (hown:w.ownsMap Tryz.prog 3 slE m nn D) (hmax:Maps.size D≤12) :
  Calls Tryz.prog 57 #[.func (.func 102) #[] #[.pointer (some ⟨w.heap.size,0,none⟩)]] (w.alloc (.cells #[.map (some m)] 154)) fun e w'=>∃ (v:Value) (ss:List Int),e=.returned v∧ss.Perm (intKeys D) ∧
   w'.ownsRow (w.heap.size+1) 3 1 v ss.length ((ss.mergeSort leI).map encZ)∧Below (w.heap.size+1) (w.alloc (.cells #[.map (some m)] 154)) w':=by
 refine (callsIn_wide (n:=5)).1 ?_
 have hbl:=hown.lt
 have hseq:SeqGives Fence.wide 2 Tryz.prog 102 #[.pointer (some ⟨w.heap.size,0,none⟩)] encZ (fun ss=>ss.Perm (intKeys D)) (Maps.size D) (w.alloc (.cells #[.map (some m)] 154)) :=
  AnyZI.keys_gives (ρ:=keysA_ren) { keysA with } Fence.wide _ trivial rfl (by omega) w.heap.size m nn D _ (by simp) (by simp) (by
   obtain ⟨es,clock,hb,Ft,hs,hD⟩:=hown
   exact ⟨es,clock,(Below.heap_alloc _ _ m hbl).trans hb,Ft,hs,hD⟩)
 have cS:=AnyZI.sorted_in sortedA Fence.wide 5 trivial trivial trivial trivial rfl (by omega) (sorts_any _) (enters_of Tryz.func117 (by kernel_rfl) rfl) 102 #[.pointer (some ⟨w.heap.size,0,none⟩)] trivial (enters_of Tryz.func102 (by kernel_rfl) rfl) _ _ (by unfold maxLen;omega) (by omega) _ hseq
 change CallsIn _ _ Tryz.prog 57 _ _ _ at cS
 refine cS.mono ?_
 rintro e w' ⟨v,ss,rfl,hS,hrow,_,hb⟩
 refine ⟨v,ss,rfl,hS,?_,?_⟩
 ·rw [World.size_alloc] at hrow;exact hrow
 ·rw [World.size_alloc] at hb;exact hb
end Go.Proofs.YtcmgclckknpecaaGreatDoor
namespace Go.Proofs.YtcmgclckknpecaaGreatDoor
open Go.RowKit Go.Shelf
set_option maxRecDepth 100000 in
set_option maxHeartbeats 8000000 in
theorem unq_str39f (s:ByteArray) (hsz:s.size≤1000000000000) (w:World) (hT:Tbr w) (hU:Lib.Utf8Tabs 5 6 w) (h0:2≤s.size) (hc0:(s[0]'(by omega)).toNat=39):Calls Tryz.prog 357 #[.string s,.bool false] w fun e w'=>UnO false s e∧Below w.heap.size w w':=by
 obtain ⟨i0,hi0,hz0,hz1,hz2⟩:=info5
 obtain ⟨te,pe,he⟩:=hT.s
 have h1:¬ (s.size:Int)<2:=by omega
 have h2:(0:Int)<(s.size:Int):=by omega
 have h3:(1:Int)≤(s.size:Int):=by omega
 have hc:((s[0]'(by omega)).toNat:Int)=39:=by omega
 have HT:Hid (Tbr w):=hT
 have HU:Hid (Lib.Utf8Tabs 5 6 w):=hU
 clear hc0 hT hU
 go_enter Tryz.func357,Tryz.ntmps357
 go_wp2_with fail
 refine (sidx_any _ _ _).mono ?_
 rintro e w1 ⟨⟨i,rfl,hi1,hi2,-⟩,rfl⟩
 rw [Lib.size_rest] at hi2
 by_cases hi:i<0
 ·go_wp2_with fail
  go_quiet (fail)
  go_wp2_with fail
  (try simp only [Exit.inBlock,Exit.then])
  refine bodyPost_ret (results_three' rfl _ _ _) rfl ?_
  exact ⟨UnO.err _ _ _ _ _,⟨rfl,rfl,rfl,Nat.le_refl _,fun _ _=>rfl⟩⟩
 ·obtain ⟨k,rfl⟩:∃ k:Nat,i=(k:Int):=⟨i.toNat,by omega⟩
  have hw:wrap64 ((k:Int)+2)=((k+2:Nat):Int):=by unfold wrap64;omega
  have hk1:((k+2:Nat):Int)≤(s.size:Int):=by omega
  have hk0:(0:Int)≤((k+2:Nat):Int):=by omega
  go_upto_region 25 with fail
  go_cut [99] (fun s99 wx=>wx=w1∧∃ b:Bool,s99=.bool b)
  case first =>
   go_wp2_with fail
   refine (scont_any _ _ _).mono ?_
   rintro e w2 ⟨⟨b,rfl,-⟩,rfl⟩
   cases b
   ·go_wp2_with fail
    refine (scont_any _ _ _).mono ?_
    rintro e w2 ⟨⟨b,rfl,-⟩,rfl⟩
    go_wp2_with fail
    go_meet
    case rel=>exact ⟨rfl,_,rfl⟩
   ·go_wp2_with fail
    go_meet
    case rel=>exact ⟨rfl,_,rfl⟩
  case rest =>
   obtain ⟨rfl,b,rfl⟩:=hcut
   obtain ⟨wA,rfl⟩:∃ wA:World,wA=wc:=⟨_,rfl⟩
   go_upto_if 99 with fail
   go_cut [11,12,13] (fun _ _ _ wx=>Below wA.heap.size wA wx)
   case first =>
    cases b
    ·go_wp2_with fail
     go_meet
     case rel=>exact Below.refl _ _
    ·go_wp2_with fail
     obtain ⟨T,hT⟩:∃ T,T=s.extract 1 (k+1):=⟨_,rfl⟩
     obtain ⟨R,hR⟩:∃ R,R=(Lib.decodeGo T).1:=⟨_,rfl⟩
     obtain ⟨K,hK⟩:∃ K,K=(Lib.decodeGo T).2:=⟨_,rfl⟩
     have hK2:K≤1000000000000:=by
      have hTs:T.size≤s.size:=by rw [hT];exact ext_le _ _ _
      by_cases h:T.size=0
      ·rw [hK];simp [Lib.decodeGo,h]
      ·have:=Lib.width_le (s:=T) (by omega)
       rw [hK];simp only [Lib.decodeGo,if_neg h];omega
     have cD:Calls Tryz.prog 348 #[.string (s.extract 1 (k+1))] wA fun e w'=>e=.returned (.tuple #[.int .i32 R,.int .i64 K])∧Below wA.heap.size wA w':=by
      have:=dec_any T wA HU.out
      rw [hR,hK]
      rwa [hT] at this ⊢
     refine cD.mono ?_
     rintro e w2 ⟨rfl,hb2⟩
     have HB2:Hid (Below wA.heap.size wA w2):=hb2
     clear hb2 cD hR hK hT
     by_cases hE:(1:Int)+(K:Int)+1=(k:Int)+2
     ·by_cases hV:(R:Int)=65533
      ·by_cases hW:(K:Int)=1
       ·have e1:((1:Int)+(K:Int)+1 == (k:Int)+2)=true:=by rw [hE];simp
        have e2:((R:Int) == 65533)=true:=by rw [hV];rfl
        have e3:((K:Int) == 1)=true:=by rw [hW];rfl
        go_wp2_with fail
        go_meet
        case rel=>exact HB2.out
       ·have e1:((1:Int)+(K:Int)+1 == (k:Int)+2)=true:=by rw [hE];simp
        have e2:((R:Int) == 65533)=true:=by rw [hV];rfl
        have e3:((K:Int) == 1)=false:=beq_eq_false_iff_ne.mpr hW
        go_wp2_with fail
        go_quiet (fail)
        go_wp2_with fail
        (try simp only [Exit.inBlock,Exit.then])
        refine bodyPost_ret (results_three' rfl _ _ _) rfl ?_
        exact ⟨UnO.part _ _ _ _ (by rw [ByteArray.size_extract];omega) (ext_le _ _ _),below_drewN HB2.out _⟩
      ·have e1:((1:Int)+(K:Int)+1 == (k:Int)+2)=true:=by rw [hE];simp
       have e2:((R:Int) == 65533)=false:=beq_eq_false_iff_ne.mpr hV
       go_wp2_with fail
       go_quiet (fail)
       go_wp2_with fail
       (try simp only [Exit.inBlock,Exit.then])
       refine bodyPost_ret (results_three' rfl _ _ _) rfl ?_
       exact ⟨UnO.part _ _ _ _ (by rw [ByteArray.size_extract];omega) (ext_le _ _ _),below_drewN HB2.out _⟩
     ·have e1:((1:Int)+(K:Int)+1 == (k:Int)+2)=false:=beq_eq_false_iff_ne.mpr hE
      go_wp2_with fail
      go_meet
      case rel=>exact HB2.out
   case rest =>
    have HB1:Hid (Below wA.heap.size wA wc):=hcut
    clear hcut
    obtain ⟨wD,rfl⟩:∃ wD:World,wD=wc:=⟨_,rfl⟩
    have HTD:Hid (Tbr wD):=HT.out.below HB1.out
    have HUD:Hid (Lib.Utf8Tabs 5 6 wD):=Utf8Tabs_below HU.out HB1.out
    obtain ⟨te,pe,he⟩:=HTD.out.s
    obtain ⟨B,hB⟩:∃ B,B=wA.heap.size:=⟨_,rfl⟩
    have HB:Hid (B=wA.heap.size):=hB
    have HB0:Hid (Lib.OwnBuf B 5 (.slice none 0 0) 0 [] wA wD):=⟨World.ownsRowF_nil _ _ _ _,by rw [hB];exact HB1.out,by rw [hB];exact HB1.out.size⟩
    clear hB HB1 hw hk1 hk0 hc
    go_wp2_with fail
    go_loopw [0,14] (fun v0 v14 wr=>∃ (t:ByteArray) (acc:List Int),v0=.string t∧t.size+1≤s.size∧acc.length+4*t.size≤4*s.size∧Hid (Lib.OwnBuf B 5 v14 acc.length (Lib.intCells acc) wA wr)) (fun v0 _ _=>match v0 with | .string r=>r.size | _=>0)
    case atStart=>exact ⟨_,[],rfl,by rw [Lib.size_rest];omega,by rw [Lib.size_rest];simp;omega,HB0⟩
    case round =>
     obtain ⟨t,acc,rfl,ht,hal,hbr⟩:=hrel
     have HBr:Hid (Below wA.heap.size wA wr):=by have:=hbr.out.2.1;rwa [HB.out] at this
     have HTr:Hid (Tbr wr):=HT.out.below HBr.out
     have HUr:Hid (Lib.Utf8Tabs 5 6 wr):=Utf8Tabs_below HU.out HBr.out
     obtain ⟨te,pe,he⟩:=HTr.out.s
     by_cases h0:t.size=0
     ·have h0I:¬ (0:Int)<(t.size:Int):=by omega
      go_wp2_with fail
      go_quiet (fail)
      go_wp2_with fail
      (try simp only [Exit.inBlock,Exit.then])
      refine bodyPost_ret (results_three' rfl _ _ _) rfl ?_
      exact ⟨UnO.err _ _ _ _ _,below_drewN HBr.out _⟩
     ·have h0I:(0:Int)<(t.size:Int):=by omega
      by_cases hq:(t[0]'(by omega)).toNat=39
      ·have hqI:((t[0]'(by omega)).toNat:Int)=39:=by omega
       have h1I:(1:Int)≤(t.size:Int):=by omega
       clear hq
       go_wp2_with fail
       (try simp only [Exit.inBlock,Exit.then])
       refine bodyPost_ret (results_three' rfl _ _ _) rfl ?_
       exact ⟨UnO.part _ _ _ _ (by rw [ByteArray.size_extract];omega) (ext_le _ _ _),HBr.out⟩
      ·have hqI:(((t[0]'(by omega)).toNat:Int) == 39)=false:=beq_eq_false_iff_ne.mpr (by omega)
       have hqJ:((t[0]'(by omega)).toNat:Int)≠39:=by omega
       clear hq
       go_wp2_with fail
       refine (uqc_any t 39 (.inr rfl) _ HTr.out HUr.out).mono ?_
       rintro e w2 ⟨⟨v,m,r,er,rfl,her⟩,hb2⟩
       have HBs:Hid (Below wA.heap.size wA w2):=HBr.out.trans (hb2.mono HBr.out.size)
       have HTs:Hid (Tbr w2):=HT.out.below HBs.out
       have hbs:Lib.OwnBuf B 5 u14 acc.length (Lib.intCells acc) wA w2:=ownbuf_below hbr.out hb2
       have Hbs:Hid (Lib.OwnBuf B 5 u14 acc.length (Lib.intCells acc) wA w2):=hbs
       obtain ⟨te,pe,he⟩:=HTs.out.s
       clear hbs hbr hb2
       by_cases hn:(t[0]'(by omega)).toNat=10
       ·have hnI:((t[0]'(by omega)).toNat:Int)=10:=by omega
        clear her hn
        go_wp2_with fail
        go_quiet (fail)
        go_wp2_with fail
        (try simp only [Exit.inBlock,Exit.then])
        refine bodyPost_ret (results_three' rfl _ _ _) rfl ?_
        exact ⟨UnO.err _ _ _ _ _,below_drewN HBs.out _⟩
       ·have hnI:(((t[0]'(by omega)).toNat:Int) == 10)=false:=beq_eq_false_iff_ne.mpr (by omega)
        have hnJ:((t[0]'(by omega)).toNat:Int)≠10:=by omega
        clear hn
        rcases her with ⟨t2,p2,rfl⟩ | ⟨rfl,hrs,hv0,hv1⟩
        ·go_wp2_with fail
         go_quiet (fail)
         go_wp2_with fail
         (try simp only [Exit.inBlock,Exit.then])
         refine bodyPost_ret (results_three' rfl _ _ _) rfl ?_
         exact ⟨UnO.err _ _ _ _ _,below_drewN HBs.out _⟩
        ·have h0J:(0:Int)<(r.size:Int)∨¬ (0:Int)<(r.size:Int):=by omega
         by_cases hr0:r.size=0
         ·have hr0I:¬ (0:Int)<(r.size:Int):=by omega
          go_wp2_with fail
          go_quiet (fail)
          go_wp2_with fail
          (try simp only [Exit.inBlock,Exit.then])
          refine bodyPost_ret (results_three' rfl _ _ _) rfl ?_
          exact ⟨UnO.err _ _ _ _ _,below_drewN HBs.out _⟩
         ·have hr0I:(0:Int)<(r.size:Int):=by omega
          have hr1I:(1:Int)≤(r.size:Int):=by omega
          by_cases hrq:(r[0]'(by omega)).toNat=39
          ·have hrI:((r[0]'(by omega)).toNat:Int)=39:=by omega
           clear hrq
           go_wp2_with fail
           (try simp only [Exit.inBlock,Exit.then])
           refine bodyPost_ret (results_three' rfl _ _ _) rfl ?_
           exact ⟨UnO.part _ _ _ _ (by rw [ByteArray.size_extract];omega) (ext_le _ _ _),HBs.out⟩
          ·have hrI:(((r[0]'(by omega)).toNat:Int) == 39)=false:=beq_eq_false_iff_ne.mpr (by omega)
           have hrJ:((r[0]'(by omega)).toNat:Int)≠39:=by omega
           clear hrq
           go_wp2_with fail
           go_quiet (fail)
           go_wp2_with fail
           (try simp only [Exit.inBlock,Exit.then])
           refine bodyPost_ret (results_three' rfl _ _ _) rfl ?_
           exact ⟨UnO.err _ _ _ _ _,below_drewN HBs.out _⟩
end Go.Proofs.YtcmgclckknpecaaGreatDoor
