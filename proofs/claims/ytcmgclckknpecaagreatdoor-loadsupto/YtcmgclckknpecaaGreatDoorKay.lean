import Derived.Test.YtcmgclckknpecaaGreatDoorKas
import Derived.Test.YtcmgclckknpecaaGreatDoorKax
import Derived.Lib.Small
namespace Go.Proofs.YtcmgclckknpecaaGreatDoor
open Go.RowKit Go.Shelf
attribute [local go_sem] Oper.semAt_some
theorem runeLen_enc (c:Nat) (h:Pl.okc c):Lib.runeLen (c:Int)=((Lib.encodeRune (c:Int)).length:Int):=by
 unfold Pl.okc at h
 unfold Lib.runeLen Lib.encodeRune
 rw [List.length_map]
 unfold Lib.encodeRuneZ
 repeat' split
 all_goals first | (simp;done) | (exfalso;omega)
set_option maxHeartbeats 1000000 in
theorem runeLen_any (c:Nat) (hc:Pl.okc c) (w:World):Calls Tryz.prog 311 #[.int .i32 (c:Int)] w fun e w'=>e=.returned (.int .i64 ((Lib.encodeRune (c:Int)).length:Int))∧w'=w:=by
 rw [← runeLen_enc c hc]
 have h2:c≤1114111:=by unfold Pl.okc at hc;omega
 go_enter Tryz.func311,Tryz.ntmps311
 go_wp2
 all_goals (go_ret;refine ⟨?_,rfl⟩;unfold Lib.runeLen;(repeat' split) <;> first | rfl | (exfalso;omega))
def Pl.edF (cs:List Nat) (lo hi:Nat):Nat→Nat→List (List Nat)
 | 0,_=>[]
 | m+1,k=>if k<cs.length∧k+1≤hi then (if lo≤k+1 then [cs.take (k+1)] else [])++Pl.edF cs lo hi m (k+1) else []
def Pl.edg (lo hi:Nat) (cs:List Nat):List (List Nat):=Pl.edF cs lo hi cs.length 0
theorem Pl.edF_le (cs:List Nat) (lo hi:Nat):∀ m k,(Pl.edF cs lo hi m k).length≤hi - k
 | 0,k=>Nat.zero_le _
 | m+1,k=>by
  have:=Pl.edF_le cs lo hi m (k+1)
  rw [Pl.edF]
  split
  ·rw [List.length_append]
   split <;> simp <;> omega
  ·exact Nat.zero_le _
theorem Pl.edF_end (cs:List Nat) (lo hi m k:Nat) (h:¬ (k<cs.length∧k+1≤hi)):Pl.edF cs lo hi m k=[]:=by
 cases m with
 | zero=>rfl
 | succ m=>rw [Pl.edF,if_neg h]
theorem Pl.eb_take_succ (cs:List Nat) (k:Nat) (h:k<cs.length):(Pl.eb (cs.take (k+1))).length=(Pl.eb (cs.take k)).length+(Lib.encodeRune ((cs[k]:Nat):Int)).length:=by
 rw [List.take_succ_eq_append_getElem h,Pl.eb_append,List.length_append]
 simp [Pl.eb]
theorem Pl.en_extract (cs:List Nat) (k:Nat):(Pl.en cs).extract 0 (Pl.eb (cs.take k)).length=Pl.en (cs.take k):=by
 have e:Pl.eb cs=Pl.eb (cs.take k)++Pl.eb (cs.drop k):=by rw [← Pl.eb_append,List.take_append_drop]
 apply ByteArray.ext
 simp only [Pl.en,ByteArray.data_extract]
 rw [e]
 simp
theorem abide_iter {β:Type} {B:Nat} {J:β→World→Prop} (hJ:AbidesFrom B J) {pre:β} {wr:World} {k:Nat} {s:ByteArray} {pos:Nat} (h:J pre wr) (hk:wr.heap[k]?=some (.stringIter s pos)) (hB:B≤k) (pos':Nat):J pre (wr.iterAt k s pos') :=
 hJ pre wr _ (some k) h ⟨rfl,rfl,rfl,by rw [Lib.iterAt_size];exact Nat.le_refl _,fun i _ hi=>Lib.iterAt_other wr k i s pos' (fun e=>hi (by rw [e]))⟩ (fun r e=>by cases e;exact ⟨hB,_,hk,rfl⟩)
theorem boxed_iterAt {wr:World} {b k:Nat} {t:TypeId} {v:Value} {s:ByteArray} {pos:Nat} (h:Boxed wr b t v) (hk:wr.heap[k]?=some (.stringIter s pos)) (pos':Nat):Boxed (wr.iterAt k s pos') b t v :=
 (Lib.iterAt_other wr k b s pos' (fun e=>by subst e;rw [show wr.heap[b]?=_ from h] at hk;cases hk)).trans h
theorem wpAnyIn_pass {F:Fence} {n:Nat} {P:Program} {md:Region.Mode} {ops:Array Oper} {Q:Exit→Act→World→Prop} {i:Nat} {o:Oper} {fuel:Nat} {listed:Array Bool} {a:Act} {w:World} (hi:ops[i]?=some o) (hr:Region.ready md ops listed=[i]) (hw:Region.wanted o (yielded ops a.tmps)=false) (hF:∀ f,F.fn f)
  (h:wpAnyIn F n P md ops Q fuel (listed.setIfInBounds i true) (a.put o.dst undef) w):wpAnyIn F n P md ops Q (fuel+1) listed a w :=
 wpAnyIn_ready hr (by simp) (AllReadyIn.cons hi (fun K hK=>by rw [if_neg (by rw [hw];simp)];exact ⟨fun f _=>hF f,hK _ _ h⟩) AllReadyIn.nil)
structure EdSt (cs:List Nat) (lo hi:Nat) (s:ByteArray) (xs:List ByteArray) (it Bt Bh Bl:Nat) (J:List ByteArray→World→Prop) (k:Nat) (wr:World):Prop where
 out:∃ (m:Nat) (pre:List ByteArray),k≤cs.length∧cs.length≤k+m∧wr.heap[it]?=some (.stringIter s (Pl.eb (cs.take k)).length)∧Boxed wr Bt 9 (.string s)∧Boxed wr Bh 3 (.int .i64 (hi:Int))∧Boxed wr Bl 3 (.int .i64 (lo:Int))∧Hid (pre++(Pl.edF cs lo hi m k).map Pl.en=xs)∧J pre wr
set_option maxRecDepth 100000 in
set_option maxHeartbeats 2000000 in
theorem edges1_in (n:Nat) (_hn:1≤n) (l Bt Bh Bl B:Nat) (cs:List Nat) (hok:∀ c∈cs,Pl.okc c) (lo hi:Nat) (hhi:hi≤9) (s:ByteArray) (HS:Hid (s=Pl.en cs)) (hsz:s.size≤1099511627776) (J Jx:List ByteArray→World→Prop) (W:World) (hJ:AbidesFrom W.heap.size J)
  (N:Nat) (hN:9≤N) (hY:∀ pre x W,J pre W→pre.length<N→YieldAt Fence.wide (n - 1) Tryz.prog l (encs1 x) W fun e W' =>
   (e=.returned (.bool true)∧J (pre++[x]) W'∧KeepE B 27 W W')∨(e=.returned (.bool false)∧Jx (pre++[x]) W'))
  (ht:Boxed W Bt 9 (.string s)) (hbh:Boxed W Bh 3 (.int .i64 (hi:Int))) (hbl:Boxed W Bl 3 (.int .i64 (lo:Int))) (hBt:Bt≠B) (hBh:Bh≠B) (hBl:Bl≠B) (hB:B<W.heap.size) (h0:J [] W) :
  CallsIn Fence.wide n Tryz.prog 310 #[.func (.yield l) #[] #[],.pointer (some ⟨Bt,0,none⟩),.pointer (some ⟨Bh,0,none⟩),.pointer (some ⟨Bl,0,none⟩)] W fun e W'=>(∃ v,e=.returned v) ∧
   ((∃ ys,ys=(Pl.edg lo hi cs).map Pl.en∧J ys W')∨(∃ pre,pre <+: (Pl.edg lo hi cs).map Pl.en∧Jx pre W')):=by
 obtain ⟨xs,hxs⟩:∃ xs,(Pl.edg lo hi cs).map Pl.en=xs:=⟨_,rfl⟩
 rw [hxs]
 have hlx:xs.length≤hi:=by rw [← hxs,List.length_map];exact Pl.edF_le cs lo hi _ 0
 have HXS:Hid ([]++(Pl.edF cs lo hi cs.length 0).map Pl.en=xs):=hxs
 have hss:s.size=(Pl.eb cs).length:=by rw [HS.out,Pl.en_size]
 clear hxs
 refine callsIn_of_wp Tryz.func310 rfl trivial ?_ rfl
 simp only [Tryz.ntmps310,List.size_toArray,List.length_cons,List.length_nil,Nat.reduceAdd,Nat.reduceSub,Array.replicate_succ,Array.replicate_zero,List.push_toArray,List.append_toArray,List.nil_append,List.cons_append]
 have ht0:=ht.cell
 gi_wp2
 gi_loopw [5] (fun b wr=>∃ k:Nat,b=.int .i64 (k:Int)∧EdSt cs lo hi s xs W.heap.size Bt Bh Bl J k wr) (fun b _=>cs.length - (intOf b).toNat)
 case atStart=>exact ⟨0,rfl,⟨cs.length,[],by omega,by omega,by simpa [Pl.eb] using World.iter_heap W s 0,ht.alloc _,hbh.alloc _,hbl.alloc _,HXS,hJ [] W _ none h0 (World.grownBy_alloc _ _ _) (fun r e=>by cases e)⟩⟩
 case round =>
  obtain ⟨k,rfl,HREL⟩:=hrel
  obtain ⟨m,pre,hk,hkm,hit,htr,hhr,hlr,HX,hJr⟩:=HREL.out
  clear HREL
  by_cases hlt:k<cs.length
  ·obtain ⟨c,hc⟩:∃ c,cs[k]=c:=⟨_,rfl⟩
   have hcok:Pl.okc c:=hok c (by rw [← hc];exact List.getElem_mem hlt)
   have hc1:c≤1114111:=by unfold Pl.okc at hcok;omega
   have htk:=Pl.eb_take_succ cs k hlt
   rw [hc] at htk
   have hcs:cs.take k++c :: cs.drop (k+1)=cs:=by rw [← hc,← List.drop_eq_getElem_cons hlt,List.take_append_drop]
   have hd:=Pl.decode_en (cs.take k) c (cs.drop (k+1)) hcok
   rw [hcs,← HS.out] at hd
   have hple:(Pl.eb (cs.take (k+1))).length≤s.size:=by
    rw [hss]
    have:Pl.eb cs=Pl.eb (cs.take (k+1))++Pl.eb (cs.drop (k+1)):=by rw [← Pl.eb_append,List.take_append_drop]
    rw [this,List.length_append];omega
   have hpos:=enc_pos c
   have hext:s.extract 0 (Pl.eb (cs.take (k+1))).length=Pl.en (cs.take (k+1)):=by rw [HS.out];exact Pl.en_extract cs (k+1)
   obtain ⟨m,rfl⟩:∃ m',m=m'+1:=⟨m - 1,by omega⟩
   have hH:=HX.out
   obtain ⟨pos,hpos0⟩:∃ pos,(Pl.eb (cs.take k)).length=pos:=⟨_,rfl⟩
   obtain ⟨L,hL⟩:∃ L,(Lib.encodeRune (c:Int)).length=L:=⟨_,rfl⟩
   have hrl:=fun w=>runeLen_any c hcok w
   rw [hL] at htk hd hpos hrl
   rw [hpos0] at htk hd hit
   rw [htk] at hple hext
   have HRL:Hid (∀ w,Calls Tryz.prog 311 #[.int .i32 (c:Int)] w fun e w'=>e=.returned (.int .i64 (L:Int))∧w'=w):=hrl
   have hp:pos<s.size:=by omega
   have hnx:∀ ty,(Instr.next (.pointer (some ⟨W.heap.size,0,none⟩)) true ty).run Tryz.prog wr=_:=fun ty=>Lib.run_next_any_at wr W.heap.size s pos ty hit hp
   rw [hd] at hnx
   simp only at hnx
   have hit2:=Lib.iterAt_heap wr W.heap.size s pos (pos+L) hit
   have ht2:=boxed_iterAt htr hit (pos+L)
   have hh2:=boxed_iterAt hhr hit (pos+L)
   have hl2:=boxed_iterAt hlr hit (pos+L)
   have hJ2:J pre (wr.iterAt W.heap.size s (pos+L)):=abide_iter hJ hJr hit (Nat.le_refl _) (pos+L)
   obtain ⟨X,hX⟩:∃ X,wr.iterAt W.heap.size s (pos+L)=X:=⟨_,rfl⟩
   rw [hX] at hnx hit2 ht2 hh2 hl2 hJ2
   have HTK:Hid ((Pl.eb (cs.take (k+1))).length=pos+L):=htk
   clear hc hcs hd hX hrl htk hpos0 hit htr hhr hlr hJr
   have t0:=ht2.cell
   have t1:=hh2.cell
   have t2:=hl2.cell
   by_cases h1:k+1≤hi
   ·have h1I:¬ (hi:Int)<(k:Int)+1:=by omega
    rw [Pl.edF,if_pos ⟨hlt,h1⟩] at hH
    by_cases h2:lo≤k+1
    ·have h2I:(lo:Int)≤(k:Int)+1:=by omega
     rw [if_pos h2] at hH
     have HX2:Hid ((pre++[Pl.en (cs.take (k+1))])++(Pl.edF cs lo hi m (k+1)).map Pl.en=xs):=by show _=_;rw [← hH];simp
     have hpre:pre.length<N:=by
      have:=congrArg List.length HX2.out
      simp only [List.length_append,List.length_cons,List.length_nil] at this
      omega
     clear hH HX
     have hJ3:J pre X.drew:=hJ pre X _ none hJ2 (⟨rfl,rfl,rfl,Nat.le_refl _,fun _ _ _=>rfl⟩:X.grownBy X.drew none) (fun r e=>by cases e)
     obtain ⟨fn,tmps,assign,body,hy,hR⟩:=hY pre (Pl.en (cs.take (k+1))) X.drew hJ3 hpre
     simp only [encs1] at hy
     have HRY:=hR.mono (R':=fun e W'=>∃ bb,e=.returned (.bool bb)∧Hid ((bb=true→J (pre++[Pl.en (cs.take (k+1))]) W'∧KeepE B 27 X.drew W')∧(bb=false→Jx (pre++[Pl.en (cs.take (k+1))]) W'))) (by
      rintro e W' (⟨rfl,h1,h2⟩ | ⟨rfl,h1⟩)
      ·exact ⟨true,rfl,⟨fun _=>⟨h1,h2⟩,fun h=>by cases h⟩⟩
      ·exact ⟨false,rfl,⟨fun h=>absurd h (by simp),fun _=>h1⟩⟩)
     clear hR
     have z1:¬ (pos:Int)+(L:Int)<0:=by omega
     have z2:¬ (s.size:Int)<(pos:Int)+(L:Int):=by omega
     have z3:(pos:Int)+(L:Int)≤(s.size:Int):=by omega
     have z4:(0:Int)≤(pos:Int)+(L:Int):=by omega
     have z5:((pos:Int)+(L:Int)).toNat=pos+L:=by omega
     have z6:IntKind.i64.wrap ((pos:Int)+(L:Int))=((pos+L:Nat):Int):=by rw [IntKind.wrap_i64];omega
     have z7:((pos+L:Nat):Int)≤(s.size:Int):=by omega
     have hmx:Tryz.prog.follows .mixedOrders=true:=by kernel_rfl
     gi_wp2_with fail
     gi_region_with_o (first | (refine ⟨trivial,?_⟩;gi_at_call 311;refine (callsIn_wide.2 (HRL.out _)).mono ?_;rintro e w2 ⟨rfl,rfl⟩) | (refine HRY.mono ?_;rintro e W3 ⟨bb,rfl,HP⟩))
     all_goals (cases bb with
      | true =>
       obtain ⟨hJ4,hk4⟩:=HP.out.1 rfl
       gi_wp2
       go_roundw
       case rel=>exact ⟨k+1,by go_num,⟨m,_,by omega,by omega,(by rw [HTK.out];exact hk4.block W.heap.size _ (by omega) (show X.drew.heap[W.heap.size]?=_ from hit2) (.inl rfl)),hk4.boxed ht2 hBt (by decide),hk4.boxed hh2 hBh (by decide),hk4.boxed hl2 hBl (by decide),HX2,hJ4⟩⟩
       case measure=>simp [intOf];omega
      | false =>
       have hJx4:=HP.out.2 rfl
       gi_wp2
       refine bodyPost_ret (results_none rfl _ _ _) rfl ?_
       exact ⟨⟨_,rfl⟩,.inr ⟨_,⟨_,HX2.out⟩,hJx4⟩⟩)
    ·have h2I:¬ (lo:Int)≤(k:Int)+1:=by omega
     rw [if_neg h2] at hH
     have HX2:Hid (pre++(Pl.edF cs lo hi m (k+1)).map Pl.en=xs):=by show _=_;rw [← hH];simp
     have hJ3:J pre X.drew:=hJ pre X _ none hJ2 (⟨rfl,rfl,rfl,Nat.le_refl _,fun _ _ _=>rfl⟩:X.grownBy X.drew none) (fun r e=>by cases e)
     clear hH HX hext
     have hmx:Tryz.prog.follows .mixedOrders=true:=by kernel_rfl
     gi_wp2_with fail
     refine wpIn_region_any hmx ?_
     refine wpAnyIn_take (i:=0) (v:=.int .i64 ((k:Int)+1)) rfl rfl (by kernel_rfl) (by kernel_rfl) (by kernel_rfl) (fun _ _ _ h=>h) ⟨Or.inl ⟨by rfl,fun w=>by go_simp⟩,fun _=>rfl⟩ ?_
     simp only [Act.put,List.setIfInBounds_toArray]
     refine wpAnyIn_ready (rs:=[1]) (by kernel_rfl) (by simp) (AllReadyIn.cons rfl (fun K hK=>?_) AllReadyIn.nil)
     go_simp
     refine hK _ _ ?_
     clear hK K
     try simp only [Act.put,List.setIfInBounds_toArray,List.set_cons_succ,List.set_cons_zero]
     refine wpAnyIn_take (i:=2) (v:=.bool false) rfl rfl (by kernel_rfl) (by kernel_rfl) (by kernel_rfl) (fun _ _ _ h=>h) ⟨Or.inl ⟨by rfl,fun w=>by go_simp⟩,fun _=>rfl⟩ ?_
     simp only [Act.put,List.setIfInBounds_toArray]
     refine wpAnyIn_take (i:=3) (v:=.bool false) rfl rfl (by kernel_rfl) (by kernel_rfl) (by kernel_rfl) (fun _ _ _ h=>h) ⟨Or.inl ⟨by rfl,fun w=>by go_simp⟩,fun _=>rfl⟩ ?_
     simp only [Act.put]
     refine wpAnyIn_take (i:=4) (v:=undef) rfl rfl (by kernel_rfl) (by kernel_rfl) (by kernel_rfl) (fun _ _ _ h=>h) ⟨Or.inr ⟨by kernel_rfl,rfl⟩,fun _=>rfl⟩ ?_
     simp only [Act.put]
     refine wpAnyIn_take (i:=5) (v:=undef) rfl rfl (by kernel_rfl) (by kernel_rfl) (by kernel_rfl) (fun _ _ _ h=>h) ⟨Or.inr ⟨by kernel_rfl,rfl⟩,fun _=>rfl⟩ ?_
     simp only [Act.put]
     refine wpAnyIn_take (i:=6) (v:=undef) rfl rfl (by kernel_rfl) (by kernel_rfl) (by kernel_rfl) (fun _ _ _ h=>h) ⟨Or.inr ⟨by kernel_rfl,rfl⟩,fun _=>rfl⟩ ?_
     simp only [Act.put]
     refine wpAnyIn_take (i:=7) (v:=undef) rfl rfl (by kernel_rfl) (by kernel_rfl) (by kernel_rfl) (fun _ _ _ h=>h) ⟨Or.inr ⟨by kernel_rfl,rfl⟩,fun _=>rfl⟩ ?_
     simp only [Act.put]
     refine wpAnyIn_pass (i:=8) rfl (by kernel_rfl) (by kernel_rfl) (fun _=>trivial) ?_
     simp only [Act.put]
     refine wpAnyIn_pass (i:=9) rfl (by kernel_rfl) (by kernel_rfl) (fun _=>trivial) ?_
     simp only [Act.put]
     refine wpAnyIn_pass (i:=10) rfl (by kernel_rfl) (by kernel_rfl) (fun _=>trivial) ?_
     simp only [Act.put]
     refine wpAnyIn_pass (i:=11) rfl (by kernel_rfl) (by kernel_rfl) (fun _=>trivial) ?_
     simp only [Act.put]
     refine wpAnyIn_pass (i:=12) rfl (by kernel_rfl) (by kernel_rfl) (fun _=>trivial) ?_
     simp only [Act.put]
     refine wpAnyIn_take (i:=13) (v:=.bool false) rfl rfl (by kernel_rfl) (by kernel_rfl) (by kernel_rfl) (fun _ _ _ h=>h) ⟨Or.inl ⟨by rfl,fun w=>by go_simp⟩,fun _=>rfl⟩ ?_
     simp only [Act.put]
     refine wpAnyIn_done (by kernel_rfl) ?_ _
     go_simp
     gi_wp2
     go_roundw
     case rel=>exact ⟨k+1,by go_num,⟨m,pre,by omega,by omega,(by rw [HTK.out];exact hit2),ht2,hh2,hl2,HX2,hJ3⟩⟩
     case measure=>simp [intOf];omega
   ·have h1I:(hi:Int)<(k:Int)+1:=by omega
    have hkb:k≤1099511627776:=by
     have:=(Pl.eb_le cs).1
     omega
    rw [Pl.edF_end cs lo hi _ k (by omega)] at hH
    have hx:pre=xs:=by simpa using hH
    clear hH HX hext
    gi_wp2
    refine bodyPost_ret (results_none rfl _ _ _) rfl ?_
    exact ⟨⟨_,rfl⟩,.inl ⟨pre,hx,hJ2⟩⟩
  ·have hx:pre=xs:=by have:=HX.out;rw [Pl.edF_end cs lo hi _ k (by omega)] at this;simpa using this
   have hkk:cs.take k=cs:=List.take_of_length_le (by omega)
   have hp:¬ (Pl.eb (cs.take k)).length<s.size:=by rw [hkk,hss];omega
   have hnx:∀ ty,(Instr.next (.pointer (some ⟨W.heap.size,0,none⟩)) true ty).run Tryz.prog wr=_:=fun ty=>Lib.run_next_end_at wr W.heap.size s _ ty hit hp
   gi_wp2
   go_end0
   refine ⟨⟨_,rfl⟩,.inl ?_⟩
   first | exact ⟨pre,hx,hJr⟩ | (rw [← hx];exact hJr)
theorem edges1_stops (n:Nat) (hn:1≤n) (Bt Bh Bl B:Nat) (cs:List Nat) (hok:∀ c∈cs,Pl.okc c) (lo hi:Nat) (hhi:hi≤9) (s:ByteArray) (HS:Hid (s=Pl.en cs)) (hsz:s.size≤1099511627776) (N:Nat) (hN:9≤N) (w:World)
  (ht:Boxed w Bt 9 (.string s)) (hbh:Boxed w Bh 3 (.int .i64 (hi:Int))) (hbl:Boxed w Bl 3 (.int .i64 (lo:Int))) (hBt:Bt≠B) (hBh:Bh≠B) (hBl:Bl≠B) (hB:B<w.heap.size) :
  SeqStopsK Fence.wide n Tryz.prog 310 #[.pointer (some ⟨Bt,0,none⟩),.pointer (some ⟨Bh,0,none⟩),.pointer (some ⟨Bl,0,none⟩)] encs1 (KeepE B 27) (fun ys=>ys=(Pl.edg lo hi cs).map Pl.en) (fun pre=>pre <+: (Pl.edg lo hi cs).map Pl.en) N w:=fun l J Jx W hW hJ _ hY h0 =>
 edges1_in n hn l Bt Bh Bl B cs hok lo hi hhi s HS hsz J Jx W hJ N hN hY (boxed_below ht hW) (boxed_below hbh hW) (boxed_below hbl hW) hBt hBh hBl (by have:=hW.size;omega) h0
theorem edges_any (x:ByteArray) (lo hi:Int) (w:World):Calls Tryz.prog 218 #[.string x,.int .i64 lo,.int .i64 hi] w fun e w' =>
  e=.returned (.func (.func 310) #[] #[.pointer (some ⟨w.heap.size,0,none⟩),.pointer (some ⟨w.heap.size+1+1,0,none⟩),.pointer (some ⟨w.heap.size+1,0,none⟩)])∧w'=((w.alloc (.cells #[.string x] 9)).alloc (.cells #[.int .i64 lo] 3)).alloc (.cells #[.int .i64 hi] 3):=by
 go_enter Tryz.func218,Tryz.ntmps218
 go_wp2
 go_ret
 exact ⟨rfl,rfl⟩
theorem grams_any (x:ByteArray) (lo hi:Int) (w:World):Calls Tryz.prog 216 #[.string x,.int .i64 lo,.int .i64 hi] w fun e w' =>
  e=.returned (.func (.func 309) #[] #[.pointer (some ⟨w.heap.size,0,none⟩),.pointer (some ⟨w.heap.size+1,0,none⟩),.pointer (some ⟨w.heap.size+1+1,0,none⟩)])∧w'=((w.alloc (.cells #[.string x] 9)).alloc (.cells #[.int .i64 lo] 3)).alloc (.cells #[.int .i64 hi] 3):=by
 go_enter Tryz.func216,Tryz.ntmps216
 go_wp2
 go_ret
 exact ⟨rfl,rfl⟩
end Go.Proofs.YtcmgclckknpecaaGreatDoor
namespace Go.Proofs.YtcmgclckknpecaaGreatDoor
open Go.RowKit Go.Shelf
abbrev rg4:Array Oper:=#[{ dst:=some 12,op:=Op.load 9 (Operand.tmp 1),type:=9,pos:= "late.go:116",after:=#[],guard:=none },
  {dst:=some 13,op:=Op.move (Operand.tmp 5),type:=3,pos:= "late.go:116",after:=#[],guard:=none },
  {dst:=some 14,op:=Op.slice 9 (Operand.tmp 12) (some (Operand.tmp 13)) none none,type:=9,pos:= "late.go:116",after:=#[{ on:=0,ground:=Ground.data },{ on:=1,ground:=Ground.data }],guard:=none },
  {dst:=some 15,op:=Op.load 3 (Operand.tmp 2),type:=3,pos:= "late.go:116",after:=#[],guard:=none },
  {dst:=some 16,op:=Op.load 3 (Operand.tmp 3),type:=3,pos:= "late.go:116",after:=#[],guard:=none },
  {dst:=some 17,op:=Op.call { callee:=Callee.value (Operand.func 218),args:=#[Operand.tmp 14,Operand.tmp 15,Operand.tmp 16],argTypes:=#[9,3,3] },type:=267,pos:= "late.go:116",after:=#[{ on:=2,ground:=Ground.data },{ on:=3,ground:=Ground.data },{ on:=4,ground:=Ground.data }],guard:=none }]
set_option maxRecDepth 100000 in
set_option maxHeartbeats 4000000 in
theorem region4_in (n:Nat) (Q:Exit→Act→World→Prop) (df:List Deferred) (Bt Bl Bh pos lo hi:Nat) (s sub:ByteArray) (w:World) (hsub:s.extract pos s.size=sub) (hp:pos≤s.size)
  (c0:w.cell? ⟨Bt,0,none⟩=some (.string s)) (c1:w.cell? ⟨Bl,0,none⟩=some (.int .i64 (lo:Int))) (c2:w.cell? ⟨Bh,0,none⟩=some (.int .i64 (hi:Int)))
  (v0 v4 v6 v7 v8 v9 v10 v11 v12 v13 v14 v15 v16 v17 v18 v19 v20 v21 v22:Value)
  (h:Q .normal ⟨#[v0,.pointer (some ⟨Bt,0,none⟩),.pointer (some ⟨Bl,0,none⟩),.pointer (some ⟨Bh,0,none⟩),v4,.int .i64 (pos:Int),v6,v7,v8,v9,v10,v11,.string s,.int .i64 (pos:Int),.string sub,.int .i64 (lo:Int),.int .i64 (hi:Int),.func (.func 310) #[] #[.pointer (some ⟨w.heap.size,0,none⟩),.pointer (some ⟨w.heap.size+1+1,0,none⟩),.pointer (some ⟨w.heap.size+1,0,none⟩)],v18,v19,v20,v21,v22],df⟩ (((w.drew.alloc (.cells #[.string sub] 9)).alloc (.cells #[.int .i64 (lo:Int)] 3)).alloc (.cells #[.int .i64 (hi:Int)] 3))) :
  (Code.region 4 rg4 true).wpIn Fence.wide n Tryz.prog Q ⟨#[v0,.pointer (some ⟨Bt,0,none⟩),.pointer (some ⟨Bl,0,none⟩),.pointer (some ⟨Bh,0,none⟩),v4,.int .i64 (pos:Int),v6,v7,v8,v9,v10,v11,v12,v13,v14,v15,v16,v17,v18,v19,v20,v21,v22],df⟩ w:=by
 have hpI:(pos:Int)≤(s.size:Int):=by omega
 have h01234:wpAnyIn Fence.wide n Tryz.prog .any rg4 Q 1 #[true,true,true,true,true,false] ⟨#[v0,.pointer (some ⟨Bt,0,none⟩),.pointer (some ⟨Bl,0,none⟩),.pointer (some ⟨Bh,0,none⟩),v4,.int .i64 (pos:Int),v6,v7,v8,v9,v10,v11,.string s,.int .i64 (pos:Int),.string sub,.int .i64 (lo:Int),.int .i64 (hi:Int),v17,v18,v19,v20,v21,v22],df⟩ w.drew:=by
  refine wpAnyIn_ready (rs:=[5]) (by kernel_rfl) (by simp) (AllReadyIn.cons rfl (fun K hK=>?_) AllReadyIn.nil)
  go_simp
  refine ⟨trivial,fun h'=>by simp [Fence.wide] at h',?_⟩
  refine (callsIn_wide.2 (edges_any _ _ _ _)).mono ?_
  rintro e w2 ⟨rfl,rfl⟩
  exact hK _ _ (wpAnyIn_done (by kernel_rfl) h _)
 have h0123:wpAnyIn Fence.wide n Tryz.prog .any rg4 Q 2 #[true,true,true,true,false,false] ⟨#[v0,.pointer (some ⟨Bt,0,none⟩),.pointer (some ⟨Bl,0,none⟩),.pointer (some ⟨Bh,0,none⟩),v4,.int .i64 (pos:Int),v6,v7,v8,v9,v10,v11,.string s,.int .i64 (pos:Int),.string sub,.int .i64 (lo:Int),v16,v17,v18,v19,v20,v21,v22],df⟩ w.drew:=by
  refine wpAnyIn_ready (rs:=[4]) (by kernel_rfl) (by simp) (AllReadyIn.cons rfl (fun K hK=>?_) AllReadyIn.nil)
  ·go_simp
   exact hK _ _ h01234
 have h0124:wpAnyIn Fence.wide n Tryz.prog .any rg4 Q 2 #[true,true,true,false,true,false] ⟨#[v0,.pointer (some ⟨Bt,0,none⟩),.pointer (some ⟨Bl,0,none⟩),.pointer (some ⟨Bh,0,none⟩),v4,.int .i64 (pos:Int),v6,v7,v8,v9,v10,v11,.string s,.int .i64 (pos:Int),.string sub,v15,.int .i64 (hi:Int),v17,v18,v19,v20,v21,v22],df⟩ w.drew:=by
  refine wpAnyIn_ready (rs:=[3]) (by kernel_rfl) (by simp) (AllReadyIn.cons rfl (fun K hK=>?_) AllReadyIn.nil)
  ·go_simp
   exact hK _ _ h01234
 have h0134:wpAnyIn Fence.wide n Tryz.prog .any rg4 Q 2 #[true,true,false,true,true,false] ⟨#[v0,.pointer (some ⟨Bt,0,none⟩),.pointer (some ⟨Bl,0,none⟩),.pointer (some ⟨Bh,0,none⟩),v4,.int .i64 (pos:Int),v6,v7,v8,v9,v10,v11,.string s,.int .i64 (pos:Int),v14,.int .i64 (lo:Int),.int .i64 (hi:Int),v17,v18,v19,v20,v21,v22],df⟩ w.drew:=by
  refine wpAnyIn_ready (rs:=[2]) (by kernel_rfl) (by simp) (AllReadyIn.cons rfl (fun K hK=>?_) AllReadyIn.nil)
  ·go_simp
   exact hK _ _ h01234
 have h012:wpAnyIn Fence.wide n Tryz.prog .any rg4 Q 3 #[true,true,true,false,false,false] ⟨#[v0,.pointer (some ⟨Bt,0,none⟩),.pointer (some ⟨Bl,0,none⟩),.pointer (some ⟨Bh,0,none⟩),v4,.int .i64 (pos:Int),v6,v7,v8,v9,v10,v11,.string s,.int .i64 (pos:Int),.string sub,v15,v16,v17,v18,v19,v20,v21,v22],df⟩ w.drew:=by
  refine wpAnyIn_ready (rs:=[3,4]) (by kernel_rfl) (by simp) (AllReadyIn.cons rfl (fun K hK=>?_) (AllReadyIn.cons rfl (fun K hK=>?_) AllReadyIn.nil))
  ·go_simp
   exact hK _ _ h0123
  ·go_simp
   exact hK _ _ h0124
 have h013:wpAnyIn Fence.wide n Tryz.prog .any rg4 Q 3 #[true,true,false,true,false,false] ⟨#[v0,.pointer (some ⟨Bt,0,none⟩),.pointer (some ⟨Bl,0,none⟩),.pointer (some ⟨Bh,0,none⟩),v4,.int .i64 (pos:Int),v6,v7,v8,v9,v10,v11,.string s,.int .i64 (pos:Int),v14,.int .i64 (lo:Int),v16,v17,v18,v19,v20,v21,v22],df⟩ w.drew:=by
  refine wpAnyIn_ready (rs:=[2,4]) (by kernel_rfl) (by simp) (AllReadyIn.cons rfl (fun K hK=>?_) (AllReadyIn.cons rfl (fun K hK=>?_) AllReadyIn.nil))
  ·go_simp
   exact hK _ _ h0123
  ·go_simp
   exact hK _ _ h0134
 have h014:wpAnyIn Fence.wide n Tryz.prog .any rg4 Q 3 #[true,true,false,false,true,false] ⟨#[v0,.pointer (some ⟨Bt,0,none⟩),.pointer (some ⟨Bl,0,none⟩),.pointer (some ⟨Bh,0,none⟩),v4,.int .i64 (pos:Int),v6,v7,v8,v9,v10,v11,.string s,.int .i64 (pos:Int),v14,v15,.int .i64 (hi:Int),v17,v18,v19,v20,v21,v22],df⟩ w.drew:=by
  refine wpAnyIn_ready (rs:=[2,3]) (by kernel_rfl) (by simp) (AllReadyIn.cons rfl (fun K hK=>?_) (AllReadyIn.cons rfl (fun K hK=>?_) AllReadyIn.nil))
  ·go_simp
   exact hK _ _ h0124
  ·go_simp
   exact hK _ _ h0134
 have h034:wpAnyIn Fence.wide n Tryz.prog .any rg4 Q 3 #[true,false,false,true,true,false] ⟨#[v0,.pointer (some ⟨Bt,0,none⟩),.pointer (some ⟨Bl,0,none⟩),.pointer (some ⟨Bh,0,none⟩),v4,.int .i64 (pos:Int),v6,v7,v8,v9,v10,v11,.string s,v13,v14,.int .i64 (lo:Int),.int .i64 (hi:Int),v17,v18,v19,v20,v21,v22],df⟩ w.drew:=by
  refine wpAnyIn_ready (rs:=[1]) (by kernel_rfl) (by simp) (AllReadyIn.cons rfl (fun K hK=>?_) AllReadyIn.nil)
  ·go_simp
   exact hK _ _ h0134
 have h134:wpAnyIn Fence.wide n Tryz.prog .any rg4 Q 3 #[false,true,false,true,true,false] ⟨#[v0,.pointer (some ⟨Bt,0,none⟩),.pointer (some ⟨Bl,0,none⟩),.pointer (some ⟨Bh,0,none⟩),v4,.int .i64 (pos:Int),v6,v7,v8,v9,v10,v11,v12,.int .i64 (pos:Int),v14,.int .i64 (lo:Int),.int .i64 (hi:Int),v17,v18,v19,v20,v21,v22],df⟩ w.drew:=by
  refine wpAnyIn_ready (rs:=[0]) (by kernel_rfl) (by simp) (AllReadyIn.cons rfl (fun K hK=>?_) AllReadyIn.nil)
  ·go_simp
   exact hK _ _ h0134
 have h01:wpAnyIn Fence.wide n Tryz.prog .any rg4 Q 4 #[true,true,false,false,false,false] ⟨#[v0,.pointer (some ⟨Bt,0,none⟩),.pointer (some ⟨Bl,0,none⟩),.pointer (some ⟨Bh,0,none⟩),v4,.int .i64 (pos:Int),v6,v7,v8,v9,v10,v11,.string s,.int .i64 (pos:Int),v14,v15,v16,v17,v18,v19,v20,v21,v22],df⟩ w.drew:=by
  refine wpAnyIn_ready (rs:=[2,3,4]) (by kernel_rfl) (by simp) (AllReadyIn.cons rfl (fun K hK=>?_) (AllReadyIn.cons rfl (fun K hK=>?_) (AllReadyIn.cons rfl (fun K hK=>?_) AllReadyIn.nil)))
  ·go_simp
   exact hK _ _ h012
  ·go_simp
   exact hK _ _ h013
  ·go_simp
   exact hK _ _ h014
 have h03:wpAnyIn Fence.wide n Tryz.prog .any rg4 Q 4 #[true,false,false,true,false,false] ⟨#[v0,.pointer (some ⟨Bt,0,none⟩),.pointer (some ⟨Bl,0,none⟩),.pointer (some ⟨Bh,0,none⟩),v4,.int .i64 (pos:Int),v6,v7,v8,v9,v10,v11,.string s,v13,v14,.int .i64 (lo:Int),v16,v17,v18,v19,v20,v21,v22],df⟩ w.drew:=by
  refine wpAnyIn_ready (rs:=[1,4]) (by kernel_rfl) (by simp) (AllReadyIn.cons rfl (fun K hK=>?_) (AllReadyIn.cons rfl (fun K hK=>?_) AllReadyIn.nil))
  ·go_simp
   exact hK _ _ h013
  ·go_simp
   exact hK _ _ h034
 have h04:wpAnyIn Fence.wide n Tryz.prog .any rg4 Q 4 #[true,false,false,false,true,false] ⟨#[v0,.pointer (some ⟨Bt,0,none⟩),.pointer (some ⟨Bl,0,none⟩),.pointer (some ⟨Bh,0,none⟩),v4,.int .i64 (pos:Int),v6,v7,v8,v9,v10,v11,.string s,v13,v14,v15,.int .i64 (hi:Int),v17,v18,v19,v20,v21,v22],df⟩ w.drew:=by
  refine wpAnyIn_ready (rs:=[1,3]) (by kernel_rfl) (by simp) (AllReadyIn.cons rfl (fun K hK=>?_) (AllReadyIn.cons rfl (fun K hK=>?_) AllReadyIn.nil))
  ·go_simp
   exact hK _ _ h014
  ·go_simp
   exact hK _ _ h034
 have h13:wpAnyIn Fence.wide n Tryz.prog .any rg4 Q 4 #[false,true,false,true,false,false] ⟨#[v0,.pointer (some ⟨Bt,0,none⟩),.pointer (some ⟨Bl,0,none⟩),.pointer (some ⟨Bh,0,none⟩),v4,.int .i64 (pos:Int),v6,v7,v8,v9,v10,v11,v12,.int .i64 (pos:Int),v14,.int .i64 (lo:Int),v16,v17,v18,v19,v20,v21,v22],df⟩ w.drew:=by
  refine wpAnyIn_ready (rs:=[0,4]) (by kernel_rfl) (by simp) (AllReadyIn.cons rfl (fun K hK=>?_) (AllReadyIn.cons rfl (fun K hK=>?_) AllReadyIn.nil))
  ·go_simp
   exact hK _ _ h013
  ·go_simp
   exact hK _ _ h134
 have h14:wpAnyIn Fence.wide n Tryz.prog .any rg4 Q 4 #[false,true,false,false,true,false] ⟨#[v0,.pointer (some ⟨Bt,0,none⟩),.pointer (some ⟨Bl,0,none⟩),.pointer (some ⟨Bh,0,none⟩),v4,.int .i64 (pos:Int),v6,v7,v8,v9,v10,v11,v12,.int .i64 (pos:Int),v14,v15,.int .i64 (hi:Int),v17,v18,v19,v20,v21,v22],df⟩ w.drew:=by
  refine wpAnyIn_ready (rs:=[0,3]) (by kernel_rfl) (by simp) (AllReadyIn.cons rfl (fun K hK=>?_) (AllReadyIn.cons rfl (fun K hK=>?_) AllReadyIn.nil))
  ·go_simp
   exact hK _ _ h014
  ·go_simp
   exact hK _ _ h134
 have h34:wpAnyIn Fence.wide n Tryz.prog .any rg4 Q 4 #[false,false,false,true,true,false] ⟨#[v0,.pointer (some ⟨Bt,0,none⟩),.pointer (some ⟨Bl,0,none⟩),.pointer (some ⟨Bh,0,none⟩),v4,.int .i64 (pos:Int),v6,v7,v8,v9,v10,v11,v12,v13,v14,.int .i64 (lo:Int),.int .i64 (hi:Int),v17,v18,v19,v20,v21,v22],df⟩ w.drew:=by
  refine wpAnyIn_ready (rs:=[0,1]) (by kernel_rfl) (by simp) (AllReadyIn.cons rfl (fun K hK=>?_) (AllReadyIn.cons rfl (fun K hK=>?_) AllReadyIn.nil))
  ·go_simp
   exact hK _ _ h034
  ·go_simp
   exact hK _ _ h134
 have h0:wpAnyIn Fence.wide n Tryz.prog .any rg4 Q 5 #[true,false,false,false,false,false] ⟨#[v0,.pointer (some ⟨Bt,0,none⟩),.pointer (some ⟨Bl,0,none⟩),.pointer (some ⟨Bh,0,none⟩),v4,.int .i64 (pos:Int),v6,v7,v8,v9,v10,v11,.string s,v13,v14,v15,v16,v17,v18,v19,v20,v21,v22],df⟩ w.drew:=by
  refine wpAnyIn_ready (rs:=[1,3,4]) (by kernel_rfl) (by simp) (AllReadyIn.cons rfl (fun K hK=>?_) (AllReadyIn.cons rfl (fun K hK=>?_) (AllReadyIn.cons rfl (fun K hK=>?_) AllReadyIn.nil)))
  ·go_simp
   exact hK _ _ h01
  ·go_simp
   exact hK _ _ h03
  ·go_simp
   exact hK _ _ h04
 have h1:wpAnyIn Fence.wide n Tryz.prog .any rg4 Q 5 #[false,true,false,false,false,false] ⟨#[v0,.pointer (some ⟨Bt,0,none⟩),.pointer (some ⟨Bl,0,none⟩),.pointer (some ⟨Bh,0,none⟩),v4,.int .i64 (pos:Int),v6,v7,v8,v9,v10,v11,v12,.int .i64 (pos:Int),v14,v15,v16,v17,v18,v19,v20,v21,v22],df⟩ w.drew:=by
  refine wpAnyIn_ready (rs:=[0,3,4]) (by kernel_rfl) (by simp) (AllReadyIn.cons rfl (fun K hK=>?_) (AllReadyIn.cons rfl (fun K hK=>?_) (AllReadyIn.cons rfl (fun K hK=>?_) AllReadyIn.nil)))
  ·go_simp
   exact hK _ _ h01
  ·go_simp
   exact hK _ _ h13
  ·go_simp
   exact hK _ _ h14
 have h3:wpAnyIn Fence.wide n Tryz.prog .any rg4 Q 5 #[false,false,false,true,false,false] ⟨#[v0,.pointer (some ⟨Bt,0,none⟩),.pointer (some ⟨Bl,0,none⟩),.pointer (some ⟨Bh,0,none⟩),v4,.int .i64 (pos:Int),v6,v7,v8,v9,v10,v11,v12,v13,v14,.int .i64 (lo:Int),v16,v17,v18,v19,v20,v21,v22],df⟩ w.drew:=by
  refine wpAnyIn_ready (rs:=[0,1,4]) (by kernel_rfl) (by simp) (AllReadyIn.cons rfl (fun K hK=>?_) (AllReadyIn.cons rfl (fun K hK=>?_) (AllReadyIn.cons rfl (fun K hK=>?_) AllReadyIn.nil)))
  ·go_simp
   exact hK _ _ h03
  ·go_simp
   exact hK _ _ h13
  ·go_simp
   exact hK _ _ h34
 have h4:wpAnyIn Fence.wide n Tryz.prog .any rg4 Q 5 #[false,false,false,false,true,false] ⟨#[v0,.pointer (some ⟨Bt,0,none⟩),.pointer (some ⟨Bl,0,none⟩),.pointer (some ⟨Bh,0,none⟩),v4,.int .i64 (pos:Int),v6,v7,v8,v9,v10,v11,v12,v13,v14,v15,.int .i64 (hi:Int),v17,v18,v19,v20,v21,v22],df⟩ w.drew:=by
  refine wpAnyIn_ready (rs:=[0,1,3]) (by kernel_rfl) (by simp) (AllReadyIn.cons rfl (fun K hK=>?_) (AllReadyIn.cons rfl (fun K hK=>?_) (AllReadyIn.cons rfl (fun K hK=>?_) AllReadyIn.nil)))
  ·go_simp
   exact hK _ _ h04
  ·go_simp
   exact hK _ _ h14
  ·go_simp
   exact hK _ _ h34
 have h_:wpAnyIn Fence.wide n Tryz.prog .any rg4 Q 6 #[false,false,false,false,false,false] ⟨#[v0,.pointer (some ⟨Bt,0,none⟩),.pointer (some ⟨Bl,0,none⟩),.pointer (some ⟨Bh,0,none⟩),v4,.int .i64 (pos:Int),v6,v7,v8,v9,v10,v11,v12,v13,v14,v15,v16,v17,v18,v19,v20,v21,v22],df⟩ w.drew:=by
  refine wpAnyIn_ready (rs:=[0,1,3,4]) (by kernel_rfl) (by simp) (AllReadyIn.cons rfl (fun K hK=>?_) (AllReadyIn.cons rfl (fun K hK=>?_) (AllReadyIn.cons rfl (fun K hK=>?_) (AllReadyIn.cons rfl (fun K hK=>?_) AllReadyIn.nil))))
  ·go_simp
   exact hK _ _ h0
  ·go_simp
   exact hK _ _ h1
  ·go_simp
   exact hK _ _ h3
  ·go_simp
   exact hK _ _ h4
 exact wpIn_region_any (by kernel_rfl) h_
end Go.Proofs.YtcmgclckknpecaaGreatDoor
namespace Go.Proofs.YtcmgclckknpecaaGreatDoor
open Go.RowKit Go.Shelf
variable {F : Fence} {n : Nat} {P : Program}
def SeqStopsO {α:Type} (F:Fence) (n:Nat) (P:Program) (g:Nat) (lb:Array Value) (encs:α→Array Value) (Kp:Nat→World→World→Prop) (S Sp:List α→Prop) (N:Nat) (w:World):Prop :=
 ∀ (l:Nat) (J Jx:List α→World→Prop) (W:World),Below w.heap.size w W→OwnFrom W.heap.size J→OwnFrom W.heap.size Jx →
  (∀ pre x W1,J pre W1→pre.length<N→YieldAt F (n - 1) P l (encs x) W1 fun e W' =>
   (e=.returned (.bool true)∧J (pre++[x]) W'∧Kp W.heap.size W1 W')∨(e=.returned (.bool false)∧Jx (pre++[x]) W'∧KeepsFrom W.heap.size W1 W')) →
  J [] W →
  CallsIn F n P g (#[.func (.yield l) #[] #[]]++lb) W fun e W'=>(∃ v,e=.returned v)∧((∃ xs,S xs∧J xs W')∨(∃ pre,Sp pre∧Jx pre W'))
theorem ownFrom_abides {β:Type} {B:Nat} {J:β→World→Prop} (h:OwnFrom B J):AbidesFrom B J:=fun s W W' row hs hg hr=>h s W W' row hs hg (fun r e=>by
 obtain ⟨h1,o,ho,hw⟩:=hr r e
 exact ⟨h1,o,ho,Obj.not_cells_of_walk hw⟩)
theorem SeqStopsO.of_K {α:Type} {g:Nat} {lb:Array Value} {encs:α→Array Value} {Kq:World→World→Prop} {Kp:Nat→World→World→Prop} {S Sp:List α→Prop} {N:Nat} {w:World} (h:SeqStopsK F n P g lb encs Kq S Sp N w) (hk:∀ m A B,Kp m A B→Kq A B) :
  SeqStopsO F n P g lb encs Kp S Sp N w:=fun l J Jx W hW hJ hJx hY h0 =>
 h l J Jx W hW (ownFrom_abides hJ) (ownFrom_abides hJx) (fun pre x W1 hj hl=>by
  obtain ⟨fn,tmps,assign,body,hy,hR⟩:=hY pre x W1 hj hl
  refine ⟨fn,tmps,assign,body,hy,hR.mono ?_⟩
  rintro e W' (⟨h1,h2,h3⟩ | ⟨h1,h2,_⟩)
  ·exact .inl ⟨h1,h2,hk _ _ _ h3⟩
  ·exact .inr ⟨h1,h2⟩) h0
structure KeepO (B:Nat) (e:TypeId) (m:Nat) (W W':World):Prop where
 size:W.heap.size≤W'.heap.size
 block:∀ (k:Nat) (o:Obj),k≠B→W.heap[k]?=some o→(o.isWalk=true∨(o.isCells=true∧∀ c fz,o≠.cells c e fz)∨(m≤k∧o.isCells=false))→W'.heap[k]?=some o
theorem KeepO.keepE {B:Nat} {e:TypeId} {m:Nat} {W W':World} (h:KeepO B e m W W'):KeepE B e W W':=⟨h.size,fun k o hk ho hp=>h.block k o hk ho (hp.elim .inl (fun h=>.inr (.inl h)))⟩
theorem KeepO.trans {B:Nat} {e:TypeId} {m:Nat} {X Y Z:World} (h:KeepO B e m X Y) (k:KeepO B e m Y Z):KeepO B e m X Z:=⟨Nat.le_trans h.size k.size,fun i o hi ho hp=>k.block i o hi (h.block i o hi ho hp) hp⟩
theorem keepO_put {B:Nat} {e:TypeId} {m:Nat} (W:World) (l:Nat) (o o':Obj) (hm:l<m) (hl:W.heap[l]?=some o) (h1:o.isCells=false) (h2:o.isWalk=false):KeepO B e m W (W.putObj l o') :=
 ⟨by simp,fun k x _ hx hp=>by
  have hne:k≠l:=fun h=>by
   subst h
   rw [hl] at hx
   cases hx
   rcases hp with hp | hp | hp
   ·rw [h2] at hp;cases hp
   ·rw [h1] at hp;cases hp.1
   ·omega
  exact (World.putObj_heap_other hne).trans hx⟩
set_option maxHeartbeats 1000000 in
theorem wpIn_range_O {α:Type} {g:Operand} {ps:Array Tmp} {assign body:Code} {Q:Exit→Act→World→Prop} {a:Act} {w:World}
  (hro:F.round=none) (h1:1≤n) {gf:Nat} {lb:Array Value} (hg:a.eval g=.func (.func gf) #[] lb) (hFg:F.fn gf) (eg:∀ args w,(callFunc gf args).run P w=.ok (.enter gf args) w)
  {encs:α→Array Value} {Kp:Nat→World→World→Prop} {S Sp:List α→Prop} {N:Nat} {w0:World} (hseq:SeqStopsO F (n - 1) P gf lb encs Kp S Sp N w0)
  (hKt:∀ {m:Nat} {A B C:World},Kp m A B→Kp m B C→Kp m A C) (hKb:∀ (m:Nat) (W:World) (l:Nat) (o o':Obj),l<m→W.heap[l]?=some o→o.isCells=false→o.isWalk=false→Kp m W (W.putObj l o')) (hb0:Below w0.heap.size w0 w) (hps:∀ x,(encs x).size=ps.size)
  (I:List α→World→Prop) (Ix:Code→List α→World→Prop) (hI:OwnFrom w.heap.size I) (hIx:∀ c,OwnFrom w.heap.size (Ix c)) (h0:I [] w) (Ax:α→Act→World→Prop) (hAx:∀ x a',OwnFrom w.heap.size (fun (_:Unit) W=>Ax x a' W))
  (hassign:∀ (l:Nat) (pre:List α) (x:α) (W:World) (K:Act→World→Prop),I pre W→(∀ a' W',KeepsFrom w.heap.size W W'→Kp (w.heap.size+2) W W'→I pre W'→Ax x a' W'→K a' W') →
   assign.wpIn (F.inRound l) (n - 1 - 1) P (Exit.then K (fun _ _ _=>False)) { tmps:=(ps.zip (encs x)).foldl (fun t (p,v)=>t.setIfInBounds p v) a.tmps,defers:=[] } W)
  (hbody:∀ (l:Nat) (pre:List α) (x:α) (a':Act) (W:World),w.heap.size≤l→(∃ r,W.heap[l]?=some (.loop r))→I pre W→Ax x a' W→pre.length<N→body.wpIn (F.inRound l) (n - 1 - 1) P (ownPostG w.heap.size (Kp (w.heap.size+2)) I Ix (pre++[x]) W) a' W)
  (hdone:∀ (D:Nat) (xs:List α) (W:World),w.heap.size≤D→S xs→I xs W→W.heap[D]?=some (.deferred (some []))→Q .normal { a with defers:={ target:=.collected D,args:=#[] } :: a.defers } W)
  (hstop:∀ (D:Nat) (c:Code) (pre:List α) (W:World),w.heap.size≤D→Sp pre→Ix c pre W→W.heap[D]?=some (.deferred (some []))→c.wpIn F n P Q { a with defers:={ target:=.collected D,args:=#[] } :: a.defers } W) :
  (Code.rangeFunc g ps assign body).wpIn F n P Q a w:=by
 refine wpIn_rangeFunc ?_
 intro fn hfn
 rw [hro]
 obtain ⟨rc,hrc⟩:∃ rc:LoopState→Option Code→Loop,rc=fun st pe=>{ state:=st,pending:=pe,fn,tmps:=a.tmps,params:=ps,assign,body,defers:=w.heap.size }:=⟨_,rfl⟩
 obtain ⟨V,hV⟩:∃ V,(w.alloc (.deferred (some []))).alloc (.loop (rc .ready none))=V:=⟨_,rfl⟩
 have vsz:V.heap.size=w.heap.size+2:=by rw [← hV];simp
 have vl:V.heap[w.heap.size+1]?=some (.loop (rc .ready none)):=by
  rw [← hV]
  have:=World.alloc_heap_new (w.alloc (.deferred (some []))) (.loop (rc .ready none))
  rwa [World.size_alloc] at this
 have vd:V.heap[w.heap.size]?=some (.deferred (some [])):=by
  rw [← hV]
  exact (Below.heap_alloc _ _ _ (by simp)).trans (World.alloc_heap_new w _)
 have vi:I [] V:=by rw [← hV];exact hI.alloc _ (hI.alloc _ h0)
 have vb:Below w0.heap.size w0 V:=by
  rw [← hV]
  exact hb0.trans ((((Below.refl _ w).alloc (Nat.le_refl _) _).alloc (by simp) _).mono hb0.size)
 have far:∀ {A B:World} {row:Option Nat},A.grownBy B row→(∀ r,row=some r→V.heap.size≤r∧∃ o:Obj,A.heap[r]?=some o∧o.isCells=false)→∀ k o,k<w.heap.size+2→A.heap[k]?=some o→B.heap[k]?=some o:=fun hg' hr k o hk ho =>
  (hg'.block k (Array.getElem?_eq_some_iff.1 ho).1 (fun e=>by have:=(hr k e.symm).1;omega)).trans ho
 refine ⟨w.heap.size+1,[{ target:=.collected w.heap.size,args:=#[] }],V,{ target:=.fn (.func gf) lb,args:=#[.func (.yield (w.heap.size+1)) #[] #[]] },V,gf,
  #[.func (.yield (w.heap.size+1)) #[] #[]]++lb,V,?_,?_,?_,?_,fun _=>h1,?_⟩
 ·rw [← hV,hrc];exact run_enterLoop_outer _ _ _ _ _
 ·simp only [resolve,hg]
  simp [go_sem]
 ·intro f' hf'
  simp [Target.leads] at hf'
  subst hf'
  exact hFg
 ·simp [invoke,go_sem,eg]
 ·refine (hseq (w.heap.size+1)
   (fun pre W=>I pre W∧W.heap[w.heap.size+1]?=some (.loop (rc .ready none))∧W.heap[w.heap.size]?=some (.deferred (some [])))
   (fun pre W=>∃ c,Ix c pre W∧W.heap[w.heap.size+1]?=some (.loop (rc .done (some c)))∧W.heap[w.heap.size]?=some (.deferred (some [])))
   V vb
   (fun s A B row hs hg' hr=>⟨hI s A B row hs.1 hg' (fun r e=>⟨by have:=(hr r e).1;omega,(hr r e).2⟩),far hg' hr _ _ (by omega) hs.2.1,far hg' hr _ _ (by omega) hs.2.2⟩)
   (fun s A B row hs hg' hr=>by
    obtain ⟨c,hc,hl,hk⟩:=hs
    exact ⟨c,hIx c s A B row hc hg' (fun r e=>⟨by have:=(hr r e).1;omega,(hr r e).2⟩),far hg' hr _ _ (by omega) hl,far hg' hr _ _ (by omega) hk⟩)
   ?_ ⟨vi,vl,vd⟩).mono ?_
  ·rintro pre x W ⟨hi,hl,hk⟩ hlen
   rw [vsz]
   have hy:=run_yield (P:=P) (args:=encs x) hl (by rw [hrc];exact hps x)
   rw [hrc] at hy
   refine ⟨fn,_,assign,body,hy,roundIn_of_wpIn hfn (hassign _ pre x W _ hi ?_)⟩
   clear hy
   intro a' X hkf hkp hix hax
   have xl:=hkf.same _ _ (by omega) hl rfl
   have xd:=hkf.same _ _ (Nat.le_refl _) hk rfl
   have xlt:w.heap.size+1<X.heap.size:=(Array.getElem?_eq_some_iff.1 xl).1
   refine ⟨_,run_beginRound xl (by rw [hrc]),?_⟩
   obtain ⟨Y,hY⟩:∃ Y,X.putObj (w.heap.size+1) (.loop { rc .ready none with state:=.busy })=Y:=⟨_,rfl⟩
   have yl:Y.heap[w.heap.size+1]?=some (.loop { rc .ready none with state:=.busy }):=by rw [← hY];exact World.putObj_heap_same xlt
   have yd:Y.heap[w.heap.size]?=some (.deferred (some [])):=by rw [← hY];exact (World.putObj_heap_other (by omega)).trans xd
   have yk:Kp (w.heap.size+2) X Y:=by rw [← hY];exact hKb _ _ _ _ _ (by omega) xl rfl rfl
   have yi:I pre Y:=by rw [← hY];exact hI.putObj _ hix (by omega) xl rfl
   have ya:Ax x a' Y:=by rw [← hY];exact (hAx x a').putObj (s:=()) _ hax (by omega) xl rfl
   rw [hY]
   refine wpIn_mono (hbody _ pre x a' _ (by omega) ⟨_,yl⟩ yi ya hlen) ?_
   have fin:∀ (jump:Option Code) (Z:World),KeepsFrom w.heap.size Y Z →
     (Instr.endRound (w.heap.size+1) jump).run P Z=.ok (.bool jump.isNone) (Z.putObj (w.heap.size+1) (.loop (rc (if jump.isNone then .ready else .done) jump))) ∧
     Z.heap[w.heap.size+1]?=some (.loop { rc .ready none with state:=.busy }) ∧
     (Z.putObj (w.heap.size+1) (.loop (rc (if jump.isNone then .ready else .done) jump))).heap[w.heap.size+1]?=some (.loop (rc (if jump.isNone then .ready else .done) jump)) ∧
     (Z.putObj (w.heap.size+1) (.loop (rc (if jump.isNone then .ready else .done) jump))).heap[w.heap.size]?=some (.deferred (some [])):=fun jump Z hz=>by
    have zl:=hz.same _ _ (by omega) yl rfl
    have hr:=run_endRound (P:=P) jump zl
    rw [hrc] at hr ⊢
    exact ⟨hr,by rw [hrc] at zl;exact zl,World.putObj_heap_same (Array.getElem?_eq_some_iff.1 zl).1,(World.putObj_heap_other (by omega)).trans (hz.same _ _ (Nat.le_refl _) yd rfl)⟩
   have kff:∀ (o:Obj) (Z:World),KeepsFrom w.heap.size Y Z→KeepsFrom (w.heap.size+2) W (Z.putObj (w.heap.size+1) o):=fun o Z hz =>
    ⟨by have h1:=hkf.size;have h2:=hz.size;rw [← hY] at h2;simp at h2 ⊢;omega,fun k q hk hq hc=>by
     have h1:=hkf.same k q (by omega) hq hc
     have h2:Y.heap[k]?=some q:=by rw [← hY];exact (World.putObj_heap_other (by omega)).trans h1
     exact (World.putObj_heap_other (by omega)).trans (hz.same k q (by omega) h2 hc)⟩
   rintro e a3 Z hp
   cases e with
   | normal =>
    obtain ⟨k3,kp3,i3⟩:=hp
    obtain ⟨hr,l3,l4,d4⟩:=fin none Z k3
    exact ⟨_,_,hr,.inl ⟨rfl,⟨hI.putObj _ i3 (by omega) l3 rfl,l4,d4⟩,hKt hkp (hKt (hKt yk kp3) (hKb _ _ _ _ _ (by omega) l3 rfl rfl))⟩⟩
   | ret =>
    obtain ⟨k3,i3⟩:=hp
    obtain ⟨hr,l3,l4,d4⟩:=fin (some .ret) Z k3
    exact ⟨_,_,hr,.inr ⟨rfl,⟨.ret,(hIx _).putObj _ i3 (by omega) l3 rfl,l4,d4⟩,kff _ Z k3⟩⟩
   | exit id =>
    obtain ⟨k3,i3⟩:=hp
    obtain ⟨hr,l3,l4,d4⟩:=fin (some (.exit id)) Z k3
    exact ⟨_,_,hr,.inr ⟨rfl,⟨.exit id,(hIx _).putObj _ i3 (by omega) l3 rfl,l4,d4⟩,kff _ Z k3⟩⟩
   | goto t =>
    obtain ⟨k3,i3⟩:=hp
    obtain ⟨hr,l3,l4,d4⟩:=fin (some (.goto t)) Z k3
    exact ⟨_,_,hr,.inr ⟨rfl,⟨.goto t,(hIx _).putObj _ i3 (by omega) l3 rfl,l4,d4⟩,kff _ Z k3⟩⟩
   | panic ch=>exact hp.elim
   | outgrown=>exact hp.elim
  ·rintro e Z ⟨⟨v,rfl⟩,(⟨xs,hS,hi,hl,hk⟩ | ⟨pre,hSp,c,hi,hl,hk⟩)⟩
   ·exact ⟨none,_,by have:=run_endLoop (P:=P) hl (by rw [hrc];simp);rw [hrc] at this;exact this,hdone _ xs _ (Nat.le_refl _) hS (hI.putObj _ hi (by omega) hl rfl) ((World.putObj_heap_other (by omega)).trans hk)⟩
   ·exact ⟨some c,_,by have:=run_endLoop (P:=P) hl (by rw [hrc];simp);rw [hrc] at this;exact this,hstop _ c pre _ (Nat.le_refl _) hSp ((hIx c).putObj _ hi (by omega) hl rfl) ((World.putObj_heap_other (by omega)).trans hk)⟩
end Go.Proofs.YtcmgclckknpecaaGreatDoor
