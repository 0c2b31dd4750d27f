import Derived.Test.YtcmgclckknpecaaGreatDoorKbu
import Derived.Test.YtcmgclckknpecaaGreatDoorRows
import Derived.WalkKit
import Derived.ProofKit
import Derived.LaidMore
import Derived.Lay
import Derived.OpenShut
import Derived.ShutString
import Derived.Stop.Joined
import Derived.JoinedCond
namespace Go.Proofs.YtcmgclckknpecaaGreatDoor.loads
open Go.ChangeShapes Go.WideShapes Go.ChangeAt Go.RowKit
theorem own:ownKnob Tryz.prog.godebug=none:=by kernel_rfl
theorem laidOut:laidOutB Tryz.prog=true:=by kernel_rfl
abbrev laid13:List (String × DataW Unit):=Rows.loadsUptoRow.laid
abbrev spc:OpenSpec:=Rows.OpenSpec.upto Rows.loadsSpec
theorem no_handles:(laid13.filter fun x=>x.2.handleName?.isSome)=[]:=by kernel_rfl
theorem laid_met (os:Os) (args:Array Value):laidMetH Tryz.prog laid13 ((World.laidAll Tryz.prog os laid13).forCall (fun _ _=>0) ⟨#[],args,[]⟩).memory:=by
 unfold laidMetH
 rw [no_handles]
 exact laidMet_laidAll args (by kernel_rfl) (by kernel_rfl)
theorem first_eq:Rows.laid_unicode_utf8_first=Lib.firstData:=by kernel_rfl
theorem accept_eq:(Rows.laid_unicode_utf8_acceptRanges:DataW Unit)=Lib.acceptData:=by kernel_rfl
theorem pow_eq:(Rows.laid_internal_strconv_uint64pow10:DataW Unit)=Lib.tabData .u64 Lib.pow10Tab:=by kernel_rfl
theorem row3:(((begin Tryz.prog (fun _ _=>0) default).world.heap[3]?).bind Obj.row?)=some (#[.int .i64 0],3):=by kernel_rfl
set_option maxRecDepth 100000 in
theorem maxlen {w:World} (h:w.ShapedOpen Tryz.prog):∃ m,w.cell? ⟨3,0,none⟩=some (.int .i64 m):=by
 obtain ⟨cs,h1,h2,h3⟩:=h.1 3 _ _ (of_decide_eq_true (by kernel_rfl)) row3
 obtain ⟨ts,hts,_,hv⟩:=h3 (by kernel_rfl)
 have h2':cs.size=1:=h2
 obtain ⟨v,hv0⟩:∃ v,cs[0]?=some v:=⟨cs[0]'(by omega),by rw [Array.getElem?_eq_getElem]⟩
 obtain ⟨u,hu,hc⟩:=hv 0 v hv0
 have:ts=[3]:=Option.some.inj (hts.symm.trans (by kernel_rfl))
 subst this
 obtain rfl:u=3:=by simpa using hu.symm
 unfold Cell.ok at hc
 rw [Tryz.underlying3] at hc
 cases v with
 | int k n =>
  obtain ⟨rfl,_⟩:=hc
  exact ⟨n,by simp [World.cell?,h1,hv0]⟩
 | _=>exact hc.elim
set_option maxRecDepth 100000 in
theorem tables {w:World} (h0:laidMetH Tryz.prog laid13 w) (hm:∃ m,w.cell? ⟨3,0,none⟩=some (.int .i64 m)):Tbl w:=by
 unfold laidMetH at h0
 rw [no_handles] at h0
 have h:laidMet Tryz.prog laid13 w:=h0
 have hl:laid13=[("math/bits.deBruijn32tab",Rows.laid_math_bits_deBruijn32tab),("math/bits.deBruijn64tab",Rows.laid_math_bits_deBruijn64tab),("internal/strconv.uint64pow10",Rows.laid_internal_strconv_uint64pow10),("unicode/utf8.acceptRanges",Rows.laid_unicode_utf8_acceptRanges),("strconv.ErrRange",Rows.laid_strconv_ErrRange),("strconv.ErrSyntax",Rows.laid_strconv_ErrSyntax),("seek/seek.endings",Rows.laid_seek_seek_endings),("strconv.isGraphic",Rows.laid_strconv_isGraphic),("strconv.isNotPrint16",Rows.laid_strconv_isNotPrint16),("strconv.isNotPrint32",Rows.laid_strconv_isNotPrint32),("strconv.isPrint16",Rows.laid_strconv_isPrint16),("strconv.isPrint32",Rows.laid_strconv_isPrint32),("unicode/utf8.first",Rows.laid_unicode_utf8_first)]:=rfl
 rw [hl] at h
 have mS:("strconv.ErrSyntax",(Rows.laid_strconv_ErrSyntax:DataW Unit))∈laid13:=by rw [hl];exact .tail _ (.tail _ (.tail _ (.tail _ (.tail _ (.head _)))))
 have mR:("strconv.ErrRange",(Rows.laid_strconv_ErrRange:DataW Unit))∈laid13:=by rw [hl];exact .tail _ (.tail _ (.tail _ (.tail _ (.head _))))
 rw [hl] at mS mR
 refine ⟨ends_of_met h ?_,⟨hm,err_of_met h (by kernel_rfl) (by kernel_rfl) mS,err_of_met h (by kernel_rfl) (by kernel_rfl) mR⟩,⟨utf8Tabs_of_readsT (ρ:=ren196) (U8Types.of196 lays196) u8x (first_eq ▸ Go.Lib.laidMet.reads h ?_) (accept_eq ▸ Go.Lib.laidMet.reads h ?_),?_⟩⟩
 ·exact .tail _ (.tail _ (.tail _ (.tail _ (.tail _ (.tail _ (.head _))))))
 ·exact .tail _ (.tail _ (.tail _ (.tail _ (.tail _ (.tail _ (.tail _ (.tail _ (.tail _ (.tail _ (.tail _ (.tail _ (.head _))))))))))))
 ·exact .tail _ (.tail _ (.tail _ (.head _)))
 ·obtain ⟨g,t,cs,fuel,p,h1,h2,h3,h4⟩:=Go.Lib.laidMet.reads h (n:= "internal/strconv.uint64pow10") (.tail _ (.tail _ (.head _)))
  have hg:g=2:=Option.some.inj (h1.symm.trans (by kernel_rfl))
  subst hg
  have ht:t=491:=Option.some.inj (h2.symm.trans (by kernel_rfl))
  subst ht
  rw [pow_eq] at h4
  have hcs:=Lib.cells_of_tab Tryz.underlying491 Tryz.underlying12 (by kernel_rfl) (by kernel_rfl) h4
  unfold Lib.TabIs
  rw [h3,← hcs]
end Go.Proofs.YtcmgclckknpecaaGreatDoor.loads
namespace Go.Proofs.YtcmgclckknpecaaGreatDoor.loads
set_option maxHeartbeats 100000000 in
theorem closed:joinedFacts Tryz.prog 12 Tryz.f12 Rows.loadsSpec Rows.loadsUptoRow=true:=by
 rw [joinedFacts]
 simp only [Bool.and_eq_true]
 and_intros
 all_goals as_aux_lemma=>kernel_rfl
end Go.Proofs.YtcmgclckknpecaaGreatDoor.loads
namespace Go.Proofs.YtcmgclckknpecaaGreatDoor.loads
open Go.ChangeShapes Go.WideShapes Go.ChangeAt Go.RowKit
open Go.ChangeMaps (open_string shut_string)
theorem small_of {H:Type} {d0:DataW H} {s:ByteArray} (h:Rows.uptoSmall H ([d0,.lit (.string s.data.toList)]++[])=true):s.size≤1048576:=by
 have h1:Rows.uptoBulkAll [d0,.lit (.string s.data.toList)]≤1048576:=by simpa [Rows.uptoSmall] using h
 have h2:s.data.toList.length=s.size:=by rw [Array.length_toList];rfl
 simp only [Rows.uptoBulkAll,Rows.uptoBulk] at h1
 omega
set_option maxRecDepth 100000 in
theorem lifted (os:Os) (started:os.Started) (H:Type) (enc:TypeId × Value→H) (F:Stop.Interp) :
  ReturnsInHanded {} Tryz.checked os 12 .any (Rows.loadsUptoRow.pre enc Tryz.prog Tryz.f12 spc) ((spc.at F).post enc Tryz.prog Tryz.f12 false true false false):=by
 rw [OpenClaim.pre_eq_preRow]
 refine returnsInHanded_of_calls own started (by kernel_rfl) ?_ ?_
 ·refine ⟨World.laidAll Tryz.prog os laid13,fun _ _=>0,⟨#[],#[.slice none 0 0,.string ByteArray.empty],[]⟩,World.laidAll_os _ _ _,World.shaped_of_ZipB (by kernel_rfl) (by kernel_rfl),rfl,(Input.okWide_of_okWideB (by kernel_rfl)).2,⟨⟨?_,laid_met os _⟩,sizedMet_of_sizedB (fuel:=8) (by kernel_rfl)⟩,?_⟩
  ·have hx:DataW.whole enc Tryz.prog ((World.laidAll Tryz.prog os laid13).forCall (fun _ _=>0) ⟨#[],#[.slice none 0 0,.string ByteArray.empty],[]⟩).memory Tryz.f12.params.toList spc.vars Rows.loadsUptoRow.apart (#[.slice none 0 0,.string ByteArray.empty]:Array Value).toList 8=some ([.nil,.lit (.string [])],[],[]):=by kernel_rfl
   exact (OpenSpec.pre_some (k:=Rows.uptoSmall) rfl _ _ _ _).2 ⟨_,_,_,DataW.Whole_of_whole hx,rfl,rfl⟩
  ·simp only [Assume.holds]
   exact ⟨by simp,by simp,by simp,by simp,by simp⟩
 ·intro w tape i _ hsh _ hok hpre _
  obtain ⟨_,_,_,fn',hfn',_,_,_,_,hval0⟩:=hok
  have e:fn'=Tryz.f12:=Option.some.inj (hfn'.symm.trans Tryz.func12)
  subst e
  obtain ⟨⟨hpre1,hX⟩,hz0⟩:=hpre
  obtain ⟨ds,gs,before,hw,_,hkk⟩:=(OpenSpec.pre_some (k:=Rows.uptoSmall) rfl _ _ _ _).1 hpre1
  have hW:=DataW.Whole.of_heap (w':=w.forCall tape i) (by rfl) hw
  have hsz0:=hz0.weights hw
  have hX':laidMetH Tryz.prog laid13 (w.forCall tape i):=laidMetH.of_heap (w:=(w.forCall tape i).memory) (w':=w.forCall tape i) rfl hX
  have hTb:=tables hX' (maxlen hsh)
  obtain ⟨W,hWe⟩:∃ W,W=w.forCall tape i:=⟨_,rfl⟩
  rw [← hWe] at hW hTb ⊢
  obtain ⟨args,hae⟩:∃ args,args=i.args:=⟨_,rfl⟩
  have hval:∀ (j:Nat) t v,Tryz.f12.params[j]?=some t→args[j]?=some v→Value.okWide Tryz.prog W .any w.heap.size t v:=by rw [hWe,hae];exact hval0
  have hsz:(DataW.weightsEach Tryz.prog (Tryz.f12.params.toList++Rows.loadsSpec.plain.varTypes Tryz.prog) (ds++gs)).all (·≤reachBytes)=true:=hsz0
  rw [← hae] at hW ⊢
  clear hpre1 hX hX' hz0 hw hsz0 hval0 hae hsh hfn'
  have main:Calls Tryz.prog 12 args W fun e W'=>∃ v,e=.returned v∧(spc.at F).post enc Tryz.prog Tryz.f12 false true false false W args v W':=by
   have hW':=hW
   obtain ⟨p,q,hA0,hV,rfl,hfz,hnd⟩:=hW
   have hA:DataW.TrodAll enc Tryz.prog W 0 (fun _=>true) true Tryz.f12.params.toList args.toList ds p:=hA0
   rw [Tryz.params12] at hA hval hsz
   obtain ⟨v0,v1,d0,d1,p0,p1,rfl,rfl,rfl,h0,h1⟩:=trodAll_two hA
   obtain ⟨rfl,rfl⟩:=trodVars_none hV
   obtain ⟨a0,l0,k0,rfl⟩:=okWide_slice Tryz.underlying43 (hval 0 43 v0 rfl rfl)
   obtain ⟨s,rfl,rfl,rfl,w1⟩:=open_string Tryz.underlying9 (hval 1 9 v1 rfl rfl) h1
   clear hA0
   simp only [List.append_nil] at hW'
   have hlt0:∀ x∈p0,x.block<W.heap.size:=fun x hx=>by
    have:=hW'.lt x (by simp [hx])
    simpa using this
   have hz:∀ n,n∈d0.weights Tryz.prog 43→n≤reachBytes:=fun n hn=>by
    have:=List.all_eq_true.1 hsz n (by
     show n∈DataW.weightsEach Tryz.prog (43 :: 9 :: _) (d0 :: _ :: _)
     simp only [DataW.weightsEach,List.mem_append]
     exact .inl hn)
    simpa using this
   have hsm:=small_of hkk
   obtain ⟨f0,t0⟩:=h0
   obtain ⟨a,g,o,cap,fs,e0,hF,ha,hg,hl,hs⟩:=open_fields t0 hz
   have e0':Value.slice a0 l0 k0=.slice a fs.length cap:=by simpa [Value.cells] using e0
   have hw0:0<W.heap.size:=by
    obtain ⟨t,fr,h⟩:=hTb.e
    exact (Array.getElem?_eq_some_iff.1 h).1
   rw [e0']
   refine (loads_all a g o cap fs s (by omega) W hw0 hF ha hg hl hs hTb).mono fun e W' ⟨he,hB⟩=>?_
   subst he
   rw [e0'] at hW'
   exact ⟨_,rfl,_,_,_,[],p0++[],[],hW',trodAll_cons_mk (shut_bool Tryz.underlying4 _) trodAll_mk0,trodAll_mk2 (Below.trod laidOut (by kernel_rfl) (of_decide_eq_true (by kernel_rfl)) (e0' ▸ ⟨f0,t0⟩) hB hlt0) (shut_string Tryz.underlying9 w1),rfl,hB.frame _,fun h=>by cases h⟩
  refine main.mono fun e W' ⟨v,he,hp⟩=>?_
  subst he
  exact ChangeSpec.post_blind hp
set_option maxRecDepth 100000 in
theorem over:Rows.loadsUptoRow.holds Tryz.pinned spc :=
 OpenClaim.holds_of_cond 12 Tryz.f12 rfl rfl rfl rfl rfl rfl rfl ⟨rfl,rfl,rfl,rfl,rfl⟩ rfl rfl rfl rfl rfl (by kernel_rfl) Tryz.func12 closed
  (of_decide_eq_true (by kernel_rfl)) (by unfold Func.isWrapper;first | (rw [if_pos (by decide +kernel)];kernel_rfl) | (rw [if_neg (by decide +kernel)];exact ⟨rfl,rfl⟩))
  (fun os started H enc _ F=>lifted os started H enc F)
end Go.Proofs.YtcmgclckknpecaaGreatDoor.loads
