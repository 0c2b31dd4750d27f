import Derived.Test.YtcmgclckknpecaaGreatDoorKay
import Derived.Test.YtcmgclckknpecaaGreatDoorKaz
import Derived.Test.YtcmgclckknpecaaGreatDoorKax
import Derived.Test.YtcmgclckknpecaaGreatDoorKat
namespace Go.Proofs.YtcmgclckknpecaaGreatDoor
open Go.RowKit Go.Shelf
attribute [local go_sem] Oper.semAt_some
theorem yield_depth {m:Nat} (m':Nat) {P:Program} {l:Nat} {args:Array Value} {W:World} {R:Ending→World→Prop} (h:YieldAt Fence.wide m P l args W R):YieldAt Fence.wide m' P l args W R:=by
 obtain ⟨fn,tmps,assign,body,hy,hR⟩:=h
 exact ⟨fn,tmps,assign,body,hy,hR.1,fun c cs _=>hR.2 c cs (by simp [Fence.room,Fence.wide])⟩
def Pl.grF (cs:List Nat) (lo hi:Nat):Nat→Nat→List (List Nat)
 | 0,_=>[]
 | m+1,k=>if k<cs.length then Pl.edg lo hi (cs.drop k)++Pl.grF cs lo hi m (k+1) else []
def Pl.grm (lo hi:Nat) (cs:List Nat):List (List Nat):=Pl.grF cs lo hi cs.length 0
theorem Pl.grF_le (cs:List Nat) (lo hi:Nat):∀ m k,(Pl.grF cs lo hi m k).length≤hi*m
 | 0,k=>Nat.zero_le _
 | m+1,k=>by
  have h1:=Pl.grF_le cs lo hi m (k+1)
  have h2:=Pl.edF_le (cs.drop k) lo hi (cs.drop k).length 0
  rw [Pl.grF]
  split
  ·rw [List.length_append,Nat.mul_succ]
   unfold Pl.edg
   omega
  ·exact Nat.zero_le _
theorem Pl.grF_end (cs:List Nat) (lo hi m k:Nat) (h:¬ k<cs.length):Pl.grF cs lo hi m k=[]:=by
 cases m with
 | zero=>rfl
 | succ m=>rw [Pl.grF,if_neg h]
theorem Pl.en_drop (cs:List Nat) (k:Nat):(Pl.en cs).extract (Pl.eb (cs.take k)).length (Pl.en cs).size=Pl.en (cs.drop k):=by
 have e:Pl.eb cs=Pl.eb (cs.take k)++Pl.eb (cs.drop k):=by rw [← Pl.eb_append,List.take_append_drop]
 apply ByteArray.ext
 rw [Pl.en_size]
 simp only [Pl.en,ByteArray.data_extract]
 rw [e]
 simp
theorem ownFrom_weak {β:Type} {B B':Nat} {J:β→World→Prop} (h:OwnFrom B J) (hb:B≤B'):OwnFrom B' J:=fun s W W' row hs hg hr=>h s W W' row hs hg (fun r e=>⟨Nat.le_trans hb (hr r e).1,(hr r e).2⟩)
theorem ownFrom_app {B:Nat} {J:List ByteArray→World→Prop} (h:OwnFrom B J) (pre:List ByteArray):OwnFrom B (fun (q:List ByteArray) W=>J (pre++q) W):=fun _ W W' row hs hg hr=>h _ W W' row hs hg hr
theorem ownFrom_at {β:Type} {B k:Nat} {o:Obj} (hk:k<B):OwnFrom B (fun (_:β) W=>W.heap[k]?=some o):=fun _ W W' row hs hg hr =>
 (hg.block k (Array.getElem?_eq_some_iff.1 hs).1 (fun e=>by have:=(hr k e.symm).1;omega)).trans hs
theorem keepO_from {B e m:Nat} {W W':World} (h:KeepO B e m W W') {m':Nat} (hm:m≤m') (hB:B<m'):KeepsFrom m' W W':=⟨h.size,fun k o hk ho hc=>h.block k o (by omega) ho (.inr (.inr ⟨by omega,hc⟩))⟩
structure GrSt (cs:List Nat) (lo hi:Nat) (s:ByteArray) (xs:List ByteArray) (W0:World) (l Bt Bl Bh:Nat) (J:List ByteArray→World→Prop) (k:Nat) (Ds:List Nat) (wr:World):Prop where
 out:∃ (m:Nat) (pre:List ByteArray),k≤cs.length∧cs.length≤k+m∧wr.heap[W0.heap.size+1]?=some (.stringIter s (Pl.eb (cs.take k)).length)∧Boxed wr Bt 9 (.string s)∧Boxed wr Bl 3 (.int .i64 (lo:Int))∧Boxed wr Bh 3 (.int .i64 (hi:Int))∧Boxed wr W0.heap.size 76 (.func (.yield l) #[] #[]) ∧
  Ds.Nodup∧(∀ D∈Ds,W0.heap.size≤D∧wr.heap[D]?=some (.deferred (some [])))∧Hid (pre++(Pl.grF cs lo hi m k).map Pl.en=xs)∧J pre wr
set_option maxRecDepth 100000 in
set_option maxHeartbeats 4000000 in
theorem grams1_in (n:Nat) (hn:6≤n) (l Bt Bl Bh B:Nat) (cs:List Nat) (hok:∀ c∈cs,Pl.okc c) (lo hi:Nat) (hhi:hi≤9) (s:ByteArray) (HS:Hid (s=Pl.en cs)) (hsz:s.size≤1099511627776) (J Jx:List ByteArray→World→Prop) (W:World) (hJ:OwnFrom W.heap.size J) (hJx:OwnFrom W.heap.size Jx)
  (N:Nat) (hN:10995116277760≤N) (hY:∀ pre x W1,J pre W1→pre.length<N→YieldAt Fence.wide (n - 1) Tryz.prog l (encs1 x) W1 fun e W' =>
   (e=.returned (.bool true)∧J (pre++[x]) W'∧KeepO B 27 W.heap.size W1 W')∨(e=.returned (.bool false)∧Jx (pre++[x]) W'∧KeepsFrom W.heap.size W1 W'))
  (ht:Boxed W Bt 9 (.string s)) (hbl:Boxed W Bl 3 (.int .i64 (lo:Int))) (hbh:Boxed W Bh 3 (.int .i64 (hi:Int))) (hBt:Bt≠B) (hBl:Bl≠B) (hBh:Bh≠B) (hB:B<W.heap.size) (h0:J [] W) :
  CallsIn Fence.wide n Tryz.prog 309 #[.func (.yield l) #[] #[],.pointer (some ⟨Bt,0,none⟩),.pointer (some ⟨Bl,0,none⟩),.pointer (some ⟨Bh,0,none⟩)] W fun e W'=>(∃ v,e=.returned v) ∧
   ((∃ ys,ys=(Pl.grm lo hi cs).map Pl.en∧J ys W')∨(∃ pre,pre <+: (Pl.grm lo hi cs).map Pl.en∧Jx pre W')):=by
 obtain ⟨xs,hxs⟩:∃ xs,(Pl.grm lo hi cs).map Pl.en=xs:=⟨_,rfl⟩
 rw [hxs]
 have hss:s.size=(Pl.eb cs).length:=by rw [HS.out,Pl.en_size]
 have hcl:=(Pl.eb_le cs).1
 have h1:1≤n:=by omega
 have hlx:xs.length≤9895604649984:=by
  have:=Pl.grF_le cs lo hi cs.length 0
  rw [← hxs,List.length_map]
  unfold Pl.grm
  have h9:hi*cs.length≤9*cs.length:=Nat.mul_le_mul_right _ hhi
  omega
 have HSS:Hid (s.size=(Pl.eb cs).length):=hss
 have hcz:cs.length≤1099511627776:=by omega
 clear hcl hss
 have HXS:Hid ([]++(Pl.grF cs lo hi cs.length 0).map Pl.en=xs):=hxs
 clear hxs
 refine callsIn_of_wp_marks Tryz.func309 rfl trivial ?_ rfl
 simp only [Tryz.ntmps309,List.size_toArray,List.length_cons,List.length_nil,Nat.reduceAdd,Nat.reduceSub,Array.replicate_succ,Array.replicate_zero,List.push_toArray,List.append_toArray,List.nil_append,List.cons_append]
 have ht0:=(ht.alloc (.cells #[.func (.yield l) #[] #[]] 76)).cell
 gi_wp2_with fail
 have by0:=Boxed.new W 76 (.func (.yield l) #[] #[])
 refine wpIn_loop (fun a' wr=>∃ (k:Nat) (Ds:List Nat) (u5 u6 u9 u10 u11 u12 u13 u14 u15 u16 u17 u18 u19 u20 u21 u22:Value),a'={ tmps:=#[.func (.yield l) #[] #[],.pointer (some ⟨Bt,0,none⟩),.pointer (some ⟨Bl,0,none⟩),.pointer (some ⟨Bh,0,none⟩),.pointer (some ⟨W.heap.size,0,none⟩),u5,u6,.string s,.pointer (some ⟨W.heap.size+1,0,none⟩),u9,u10,u11,u12,u13,u14,u15,u16,u17,u18,u19,u20,u21,u22],defers:=Ds.map fun D=>{ target:=.collected D,args:=#[] } }∧GrSt cs lo hi s xs W l Bt Bl Bh J k Ds wr)
  (fun _ wr=>s.size - wr.iterPos (W.heap.size+1)) ?start ?round
 case start =>
  refine ⟨0,[],_,_,_,_,_,_,_,_,_,_,_,_,_,_,_,_,rfl,⟨cs.length,[],by omega,by omega,?_,(ht.alloc _).alloc _,(hbl.alloc _).alloc _,(hbh.alloc _).alloc _,by0.alloc _,by simp,by simp,HXS,hJ.alloc _ (hJ.alloc _ h0)⟩⟩
  have:=World.iter_heap (W.alloc (.cells #[.func (.yield l) #[] #[]] 76)) s 0
  simpa [Pl.eb] using this
 case round =>
  rintro _ wr ⟨k,Ds,u5,u6,u9,u10,u11,u12,u13,u14,u15,u16,u17,u18,u19,u20,u21,u22,rfl,ST⟩
  obtain ⟨m,pre,hk,hkm,hit,htr,hlr,hhr,hyr,hnd,hDs,HX,hJr⟩:=ST.out
  clear ST
  have hitl:W.heap.size+1<wr.heap.size:=(Array.getElem?_eq_some_iff.1 hit).1
  by_cases hlt:k<cs.length
  ·obtain ⟨c,hc⟩:∃ c,cs[k]=c:=⟨_,rfl⟩
   have hcok:Pl.okc c:=hok c (by rw [← hc];exact List.getElem_mem hlt)
   have hc1:c≤1114111:=by unfold Pl.okc at hcok;omega
   have htk:=Pl.eb_take_succ cs k hlt
   rw [hc] at htk
   have hcs:cs.take k++c :: cs.drop (k+1)=cs:=by rw [← hc,← List.drop_eq_getElem_cons hlt,List.take_append_drop]
   have hd:=Pl.decode_en (cs.take k) c (cs.drop (k+1)) hcok
   rw [hcs,← HS.out] at hd
   have hple:(Pl.eb (cs.take (k+1))).length≤s.size:=by
    rw [HSS.out]
    have:Pl.eb cs=Pl.eb (cs.take (k+1))++Pl.eb (cs.drop (k+1)):=by rw [← Pl.eb_append,List.take_append_drop]
    rw [this,List.length_append];omega
   have hpos:=enc_pos c
   have hext:s.extract (Pl.eb (cs.take k)).length s.size=Pl.en (cs.drop k):=by rw [HS.out];exact Pl.en_drop cs k
   obtain ⟨m,rfl⟩:∃ m',m=m'+1:=⟨m - 1,by omega⟩
   have hH:=HX.out
   rw [Pl.grF,if_pos hlt] at hH
   obtain ⟨pos,hpos0⟩:∃ pos,(Pl.eb (cs.take k)).length=pos:=⟨_,rfl⟩
   obtain ⟨L,hL⟩:∃ L,(Lib.encodeRune (c:Int)).length=L:=⟨_,rfl⟩
   rw [hL] at htk hd hpos
   rw [hpos0] at htk hd hit hext
   rw [htk] at hple
   obtain ⟨sub,hsub⟩:∃ sub,s.extract pos s.size=sub:=⟨_,rfl⟩
   have HSUB:Hid (sub=Pl.en (cs.drop k)):=by show _=_;rw [← hsub,hext]
   have hsubz:sub.size≤1099511627776:=by rw [← hsub];simp;omega
   have hp:pos<s.size:=by omega
   have hpI:(pos:Int)≤(s.size:Int):=by omega
   have hnx:∀ ty,(Instr.next (.pointer (some ⟨W.heap.size+1,0,none⟩)) true ty).run Tryz.prog wr=_:=fun ty=>Lib.run_next_any_at wr (W.heap.size+1) s pos ty hit hp
   rw [hd] at hnx
   simp only at hnx
   have hit2:=Lib.iterAt_heap wr (W.heap.size+1) s pos (pos+L) hit
   have ht2:=boxed_iterAt htr hit (pos+L)
   have hh2:=boxed_iterAt hhr hit (pos+L)
   have hl2:=boxed_iterAt hlr hit (pos+L)
   have hy2:=boxed_iterAt hyr hit (pos+L)
   have hJ2:J pre (wr.iterAt (W.heap.size+1) s (pos+L)):=abide_iter (ownFrom_abides hJ) hJr hit (by omega) (pos+L)
   have hDs2:∀ D∈Ds,W.heap.size≤D∧(wr.iterAt (W.heap.size+1) s (pos+L)).heap[D]?=some (.deferred (some [])):=fun D hD=>⟨(hDs D hD).1,(Lib.iterAt_other wr _ D s _ (fun e=>by subst e;rw [(hDs _ hD).2] at hit;cases hit)).trans (hDs D hD).2⟩
   obtain ⟨X,hX⟩:∃ X,wr.iterAt (W.heap.size+1) s (pos+L)=X:=⟨_,rfl⟩
   rw [hX] at hnx hit2 ht2 hh2 hl2 hy2 hJ2 hDs2
   have hitX:W.heap.size+1<X.heap.size:=(Array.getElem?_eq_some_iff.1 hit2).1
   have HTK:Hid ((Pl.eb (cs.take (k+1))).length=pos+L):=htk
   have HIT:Hid (wr.heap[W.heap.size+1]?=some (.stringIter s pos)):=hit
   have HH:Hid (pre++(Pl.edg lo hi (cs.drop k)++Pl.grF cs lo hi m (k+1)).map Pl.en=xs):=hH
   have HDK:Hid (∀ c∈cs.drop k,Pl.okc c):=fun c hc=>hok c (List.mem_of_mem_drop hc)
   clear hc hcs hd hX htk hpos0 hit htr hhr hlr hyr hJr hH hext HX hDs
   have t0:=ht2.cell
   have t1:=hh2.cell
   have t2:=hl2.cell
   gi_wp2_with fail
   refine region4_in n _ _ Bt Bl Bh pos lo hi s sub X hsub (by omega) t0 t2 t1 _ _ _ _ _ _ _ _ _ _ _ _ _ _ _ _ _ _ _ ?_
   obtain ⟨V4,hV4⟩:∃ V4,((X.drew.alloc (.cells #[.string sub] 9)).alloc (.cells #[.int .i64 (lo:Int)] 3)).alloc (.cells #[.int .i64 (hi:Int)] 3)=V4:=⟨_,rfl⟩
   rw [hV4]
   have hb4:Below X.heap.size X V4:=by
    rw [← hV4]
    exact ((((Below.refl _ X).drew).alloc (Nat.le_refl _) _).alloc (by simp) _).alloc (by simp;omega) _
   have hg4:=grown_below hb4
   have hs4:V4.heap.size=X.heap.size+3:=by rw [← hV4];simp
   have b0:Boxed V4 X.heap.size 9 (.string sub):=by rw [← hV4];exact ((Boxed.new X.drew 9 (.string sub)).alloc _).alloc _
   have b1:Boxed V4 (X.heap.size+1) 3 (.int .i64 (lo:Int)):=by
    rw [← hV4]
    have:=Boxed.new (X.drew.alloc (.cells #[.string sub] 9)) 3 (.int .i64 (lo:Int))
    exact (by simpa using this:Boxed _ (X.heap.size+1) 3 (.int .i64 (lo:Int))).alloc _
   have b2:Boxed V4 (X.heap.size+1+1) 3 (.int .i64 (hi:Int)):=by
    rw [← hV4]
    have:=Boxed.new ((X.drew.alloc (.cells #[.string sub] 9)).alloc (.cells #[.int .i64 (lo:Int)] 3)) 3 (.int .i64 (hi:Int))
    simpa using this
   clear hV4
   have hJ4:J pre V4:=hJ pre X _ none hJ2 hg4 (fun r e=>by cases e)
   have kp:∀ {i:Nat} {o:Obj},X.heap[i]?=some o→V4.heap[i]?=some o:=fun ho=>(hg4.block _ (Array.getElem?_eq_some_iff.1 ho).1 (by simp)).trans ho
   have hDlt:∀ D∈Ds,D<V4.heap.size:=fun D hD=>(Array.getElem?_eq_some_iff.1 (kp (hDs2 D hD).2)).1
   have hpl:pre.length≤9895604649984:=by
    have:=congrArg List.length HH.out
    simp only [List.length_append] at this
    omega
   simp only [Exit.then]
   gi_wp2_with fail
   refine wpIn_rangeFunc_ownH rfl h1 (gf:=310) (lb:=#[.pointer (some ⟨X.heap.size,0,none⟩),.pointer (some ⟨X.heap.size+1+1,0,none⟩),.pointer (some ⟨X.heap.size+1,0,none⟩)]) rfl trivial (enters_of Tryz.func310 (by kernel_rfl) rfl) (edges1_stops (n - 1) (by omega) X.heap.size (X.heap.size+1+1) (X.heap.size+1) B (cs.drop k) HDK.out lo hi hhi sub HSUB hsubz 9 (Nat.le_refl _) V4 b0 b2 b1 (by omega) (by omega) (by omega) (by omega)) KeepE.trans keepE_put (Below.refl _ _) (fun _=>rfl)
    (fun (q:List ByteArray) V=>(J (pre++q) V∧V.heap[W.heap.size+1]?=some (.stringIter s (pos+L)))∧(Boxed V Bt 9 (.string s)∧Boxed V Bl 3 (.int .i64 (lo:Int))∧Boxed V Bh 3 (.int .i64 (hi:Int))∧Boxed V W.heap.size 76 (.func (.yield l) #[] #[]))∧(∀ D∈Ds,V.heap[D]?=some (.deferred (some []))))
    (fun c q V=>(c=.ret∧Jx (pre++q) V)∧(∀ D∈Ds,V.heap[D]?=some (.deferred (some []))))
    (OwnFrom.and (OwnFrom.and (ownFrom_app (ownFrom_weak hJ (by omega)) pre) (ownFrom_at (by omega))) (OwnFrom.and (OwnFrom.and (Own.from (boxed_own _ _ _) _) (OwnFrom.and (Own.from (boxed_own _ _ _) _) (OwnFrom.and (Own.from (boxed_own _ _ _) _) (Own.from (boxed_own _ _ _) _)))) (def_own Ds _ hDlt)))
    (fun c=>OwnFrom.and (OwnFrom.and (ownFrom_pure _ (fun _=>c=.ret)) (ownFrom_app (ownFrom_weak hJx (by omega)) pre)) (def_own Ds _ hDlt))
    ⟨⟨by simpa using hJ4,kp hit2⟩,⟨kp ht2,kp hl2,kp hh2,kp hy2⟩,fun D hD=>kp (hDs2 D hD).2⟩
    (fun x a' _=>a'={ tmps:=#[.func (.yield l) #[] #[],.pointer (some ⟨Bt,0,none⟩),.pointer (some ⟨Bl,0,none⟩),.pointer (some ⟨Bh,0,none⟩),.pointer (some ⟨W.heap.size,0,none⟩),.int .i64 (pos:Int),.string x,.string s,.pointer (some ⟨W.heap.size+1,0,none⟩),.tuple #[.bool true,.int .i64 (pos:Int),.int .i32 (c:Int)],.bool true,.int .i64 (pos:Int),.string s,.int .i64 (pos:Int),.string sub,.int .i64 (lo:Int),.int .i64 (hi:Int),.func (.func 310) #[] #[.pointer (some ⟨X.heap.size,0,none⟩),.pointer (some ⟨X.heap.size+1+1,0,none⟩),.pointer (some ⟨X.heap.size+1,0,none⟩)],.string x,u19,u20,u21,u22],defers:=[] })
    (fun x a' _ A' B' row hs hg hr=>hs)
    ?assign ?body ?done ?stop
   case assign =>
    rintro l' q x V K hi' hK
    simp only [encs1]
    gi_wp2
    exact hK _ _ (KeepsFrom.refl _ _) ⟨Nat.le_refl _,fun _ _ _ h _=>h⟩ hi' rfl
   case body =>
    rintro l' q x a' V hll ⟨r,hr⟩ ⟨⟨hJq,hiq⟩,⟨q0,q1,q2,q3⟩,hDq⟩ rfl hlt9
    obtain ⟨fn,tmps,assign,body,hy,hR⟩:=yield_depth (n - 1 - 1 - 1) (hY (pre++q) x V hJq (by simp;omega))
    simp only [encs1] at hy
    have y0:=q3.cell
    gi_wp2_with fail
    refine ⟨fun _=>by omega,?_⟩
    refine (show RoundIn (Fence.wide.inRound l') (n - 1 - 1 - 1) Tryz.prog l fn tmps assign body V _ from hR).mono ?_
    rintro e V5 (⟨rfl,hJ5,hk5⟩ | ⟨rfl,hJx5,hk5⟩)
    ·have hE5:=hk5.keepE
     gi_wp2_with fail
     exact ⟨keepO_from hk5 (by omega) (by omega),hE5,⟨by simpa using hJ5,hk5.block _ _ (by omega) hiq (.inl rfl)⟩,⟨hE5.boxed q0 hBt (by decide),hE5.boxed q1 hBl (by decide),hE5.boxed q2 hBh (by decide),hE5.boxed q3 (by omega) (by decide)⟩,fun D hD=>hk5.block D _ (by have:=(hDs2 D hD).1;omega) (hDq D hD) (.inr (.inr ⟨(hDs2 D hD).1,rfl⟩))⟩
    ·gi_wp2_with fail
     exact ⟨⟨hk5.size,fun k' o' hk' ho' hc'=>hk5.same k' o' (by omega) ho' hc'⟩,⟨rfl,by simpa using hJx5⟩,fun D hD=>hk5.same D _ (hDs2 D hD).1 (hDq D hD) rfl⟩
   case done =>
    rintro D ys V hD rfl ⟨⟨hJq,hiq⟩,⟨q0,q1,q2,q3⟩,hDq⟩ hK
    have hnew:D ∉ Ds:=fun h=>by have:=hDlt D h;omega
    gi_wp2_with fail
    refine ⟨⟨k+1,D :: Ds,_,_,_,_,_,_,_,_,_,_,_,_,_,_,_,_,rfl,⟨m,_,by omega,by omega,(by rw [HTK.out];exact hiq),q0,q1,q2,q3,List.nodup_cons.2 ⟨hnew,hnd⟩,?_,?_,hJq⟩⟩,?_⟩
    ·intro D' hD'
     rcases List.mem_cons.1 hD' with rfl | h
     ·exact ⟨by omega,hK⟩
     ·exact ⟨(hDs2 D' h).1,hDq D' h⟩
    ·show _=_
     rw [← HH.out]
     simp
    ·simp only [World.iterPos,hiq,HIT.out]
     omega
   case stop =>
    rintro D cc q V hD hpre ⟨⟨rfl,hJxq⟩,hDq⟩ hK
    have hnew:D ∉ Ds:=fun h=>by have:=hDlt D h;omega
    gi_wp2_with fail
    refine leavesM_marks (base:=W.heap.size) (fun Y=>Jx (pre++q) Y) (fun Y D' hb h hK'=>hJx.putObj _ h hb hK' rfl) (fun Y h=>⟨_,results_none rfl _ _ _,⟨_,rfl⟩,.inr ⟨pre++q,?_,h⟩⟩) (D :: Ds) V (List.nodup_cons.2 ⟨hnew,hnd⟩) ?_ hJxq
    ·intro D' hD'
     rcases List.mem_cons.1 hD' with rfl | h
     ·exact ⟨by omega,hK⟩
     ·exact ⟨(hDs2 D' h).1,hDq D' h⟩
    ·obtain ⟨tl,htl⟩:=hpre
     rw [← HH.out,List.map_append,← htl]
     exact ⟨tl++(Pl.grF cs lo hi m (k+1)).map Pl.en,by simp⟩
  ·have hx:pre=xs:=by have:=HX.out;rw [Pl.grF_end cs lo hi _ k hlt] at this;simpa using this
   have hkk:cs.take k=cs:=List.take_of_length_le (by omega)
   have hp:¬ (Pl.eb (cs.take k)).length<s.size:=by rw [hkk,HSS.out];omega
   have hnx:∀ ty,(Instr.next (.pointer (some ⟨W.heap.size+1,0,none⟩)) true ty).run Tryz.prog wr=_:=fun ty=>Lib.run_next_end_at wr (W.heap.size+1) s _ ty hit hp
   gi_wp2_with fail
   refine leavesM_marks (base:=W.heap.size) (fun Y=>J pre Y) (fun Y D' hb h hK'=>hJ.putObj _ h hb hK' rfl) (fun Y h=>⟨_,results_none rfl _ _ _,⟨_,rfl⟩,.inl ⟨pre,hx,h⟩⟩) Ds _ hnd hDs hJr
theorem grams1_stops (n:Nat) (hn:6≤n) (Bt Bl Bh B:Nat) (cs:List Nat) (hok:∀ c∈cs,Pl.okc c) (lo hi:Nat) (hhi:hi≤9) (s:ByteArray) (HS:Hid (s=Pl.en cs)) (hsz:s.size≤1099511627776) (N:Nat) (hN:10995116277760≤N) (w:World)
  (ht:Boxed w Bt 9 (.string s)) (hbl:Boxed w Bl 3 (.int .i64 (lo:Int))) (hbh:Boxed w Bh 3 (.int .i64 (hi:Int))) (hBt:Bt≠B) (hBl:Bl≠B) (hBh:Bh≠B) (hB:B<w.heap.size) :
  SeqStopsO Fence.wide n Tryz.prog 309 #[.pointer (some ⟨Bt,0,none⟩),.pointer (some ⟨Bl,0,none⟩),.pointer (some ⟨Bh,0,none⟩)] encs1 (KeepO B 27) (fun ys=>ys=(Pl.grm lo hi cs).map Pl.en) (fun pre=>pre <+: (Pl.grm lo hi cs).map Pl.en) N w:=fun l J Jx W hW hJ hJx hY h0 =>
 grams1_in n hn l Bt Bl Bh B cs hok lo hi hhi s HS hsz J Jx W hJ hJx N hN hY (boxed_below ht hW) (boxed_below hbl hW) (boxed_below hbh hW) hBt hBl hBh (by have:=hW.size;omega) h0
end Go.Proofs.YtcmgclckknpecaaGreatDoor
namespace Go.Proofs.YtcmgclckknpecaaGreatDoor
namespace Pl
theorem sml_ok {c:Nat} (h:okc c):okc (sml c):=by
 unfold sml
 split
 ·rename_i hc
  have:c≤2000:=by
   unfold isCap wit at hc
   split at hc
   ·simp at hc
   ·simp at hc;omega
  unfold okc
  omega
 ·exact h
theorem smlFrom_en (cs:List Nat) (hc:∀ c∈cs,okc c):∀ (post pre:List Nat) (m:Nat),pre++post=cs→(eb post).length≤m→smlFrom (en cs) m (eb pre).length=eb (post.map sml)
 | [],pre,m,h,_=>by
  rw [List.append_nil] at h
  subst h
  rw [smlFrom_end _ _ _ (by rw [en_size];omega)]
  rfl
 | c :: r,pre,m,h,hm=>by
  have hp:=enc_pos c
  rw [eb_cons,List.length_append] at hm
  obtain ⟨m',rfl⟩:∃ m',m=m'+1:=⟨m - 1,by omega⟩
  have hlt:(eb pre).length<(en cs).size:=by
   rw [en_size,← h,eb_append,eb_cons]
   simp only [List.length_append];omega
  have hd:=decode_en pre c r (hc c (by rw [← h];simp))
  rw [h] at hd
  have ih:=smlFrom_en cs hc r (pre++[c]) m' (by simpa using h) (by omega)
  have hl:(eb (pre++[c])).length=(eb pre).length+(Lib.encodeRune (c:Int)).length:=by rw [eb_append,List.length_append];simp [eb]
  rw [smlFrom,if_pos hlt,hd]
  simp only
  rw [← hl,ih,List.map_cons,eb_cons]
theorem smlS_en (cs:List Nat) (hc:∀ c∈cs,okc c):smlS (en cs)=en (cs.map sml):=by
 have:=smlFrom_en cs hc cs [] (en cs).size rfl (by rw [en_size];exact Nat.le_refl _)
 simp only [eb_nil,List.length_nil] at this
 rw [smlS,this,en]
theorem plF_en (cs:List Nat) (hc:∀ c∈cs,okc c):∀ (post pre:List Nat) (m:Nat),pre++post=cs→(eb post).length≤m→plF (en cs) m (eb pre).length=post.all fun c=>wit c 97 122
 | [],pre,m,h,_=>by
  rw [List.append_nil] at h
  subst h
  rw [plF_end _ _ _ (by rw [en_size];omega)]
  rfl
 | c :: r,pre,m,h,hm=>by
  have hp:=enc_pos c
  rw [eb_cons,List.length_append] at hm
  obtain ⟨m',rfl⟩:∃ m',m=m'+1:=⟨m - 1,by omega⟩
  have hlt:(eb pre).length<(en cs).size:=by
   rw [en_size,← h,eb_append,eb_cons]
   simp only [List.length_append];omega
  have hd:=decode_en pre c r (hc c (by rw [← h];simp))
  rw [h] at hd
  have ih:=plF_en cs hc r (pre++[c]) m' (by simpa using h) (by omega)
  have hl:(eb (pre++[c])).length=(eb pre).length+(Lib.encodeRune (c:Int)).length:=by rw [eb_append,List.length_append];simp [eb]
  rw [plF,if_pos hlt,hd]
  simp only
  rw [← hl,ih,List.all_cons]
theorem plF_all (cs:List Nat) (hc:∀ c∈cs,okc c):plF (en cs) (en cs).size 0=cs.all fun c=>wit c 97 122:=by
 have:=plF_en cs hc cs [] (en cs).size rfl (by rw [en_size];exact Nat.le_refl _)
 simpa only [eb_nil,List.length_nil] using this
theorem count_en (cs:List Nat) (hc:∀ c∈cs,okc c):∀ (post pre:List Nat) (m:Nat),pre++post=cs→(eb post).length≤m→Lib.runeCountFrom (en cs) m (eb pre).length=post.length
 | [],pre,m,h,_=>by
  rw [List.append_nil] at h
  subst h
  rw [Lib.runeCountFrom_end _ _ _ (by rw [en_size];omega)]
  rfl
 | c :: r,pre,m,h,hm=>by
  have hp:=enc_pos c
  rw [eb_cons,List.length_append] at hm
  obtain ⟨m',rfl⟩:∃ m',m=m'+1:=⟨m - 1,by omega⟩
  have hlt:(eb pre).length<(en cs).size:=by
   rw [en_size,← h,eb_append,eb_cons]
   simp only [List.length_append];omega
  have hd:=decode_en pre c r (hc c (by rw [← h];simp))
  rw [h] at hd
  have ih:=count_en cs hc r (pre++[c]) m' (by simpa using h) (by omega)
  have hl:(eb (pre++[c])).length=(eb pre).length+(Lib.encodeRune (c:Int)).length:=by rw [eb_append,List.length_append];simp [eb]
  rw [Lib.runeCountFrom,if_pos hlt,hd]
  simp only
  rw [← hl,ih,List.length_cons]
  omega
theorem runeCount_en (cs:List Nat) (hc:∀ c∈cs,okc c):Lib.runeCount (en cs)=cs.length:=by
 unfold Lib.runeCount
 have:=count_en cs hc cs [] (en cs).size rfl (by rw [en_size];exact Nat.le_refl _)
 simpa only [eb_nil,List.length_nil] using this
def bc (b:ByteArray):List Nat:=b.data.toList.map UInt8.toNat
theorem enc_ascii (x:UInt8) (h:x.toNat<128):Lib.encodeRune ((x.toNat:Nat):Int)=[x]:=by
 rw [Lib.encodeRune,Lib.encodeRuneZ_one (by omega) (by omega)]
 simp
theorem eb_ascii:∀ l:List UInt8,(∀ x∈l,x.toNat<128)→eb (l.map UInt8.toNat)=l
 | [],_=>rfl
 | x :: r,h=>by
  rw [List.map_cons,eb_cons,enc_ascii x (h x (by simp)),eb_ascii r (fun y hy=>h y (by simp [hy]))]
  rfl
theorem en_bc (b:ByteArray) (h:∀ x∈b.data.toList,x.toNat<128):en (bc b)=b:=by
 rw [en,bc,eb_ascii _ h]
theorem eb_plain:∀ cs:List Nat,(cs.all fun c=>wit c 97 122)=true→eb cs=cs.map Nat.toUInt8
 | [],_=>rfl
 | c :: r,h=>by
  rw [List.all_cons,Bool.and_eq_true] at h
  have hc:97≤c∧c≤122:=by have:=h.1;simpa [wit] using this
  rw [eb_cons,eb_plain r h.2,Lib.encodeRune,Lib.encodeRuneZ_one (by omega) (by omega)]
  simp
end Pl
end Go.Proofs.YtcmgclckknpecaaGreatDoor
namespace Go.Proofs.YtcmgclckknpecaaGreatDoor
open Go.RowKit Go.Shelf
theorem two_boxes {w1:World} {W:World} (hB:Below W.heap.size W w1) (st:Bool) (x:ByteArray):Boxed ((w1.alloc (.cells #[.bool st] 4)).alloc (.cells #[.string x] 9)) w1.heap.size 4 (.bool st)∧Boxed ((w1.alloc (.cells #[.bool st] 4)).alloc (.cells #[.string x] 9)) (w1.heap.size+1) 9 (.string x)∧W.heap.size≤w1.heap.size∧Below W.heap.size W ((w1.alloc (.cells #[.bool st] 4)).alloc (.cells #[.string x] 9)):=by
 have h1:=Boxed.new w1 4 (.bool st)
 have h2:=Boxed.new (w1.alloc (.cells #[.bool st] 4)) 9 (.string x)
 exact ⟨h1.alloc _,by simpa using h2,hB.size,(hB.alloc hB.size _).alloc (by have:=hB.size;simp;omega) _⟩
theorem stemV_any (x:ByteArray) (w:World) (hx:x.size≤1099511627776) (hE:Ends w):Calls Tryz.prog 206 #[.string x] w fun e w'=>∃ b,
  e=.returned (.func (.func 306) #[] #[.pointer (some ⟨b,0,none⟩),.pointer (some ⟨b+1,0,none⟩)])∧Boxed w' b 4 (.bool true)∧Boxed w' (b+1) 9 (.string (Pl.stm x))∧w.heap.size≤b∧Below w.heap.size w w':=by
 go_enter Tryz.func206,Tryz.ntmps206
 go_wp2_with (first
  | (go_at_call 207;refine (stem_any x _ hx hE).mono ?_;rintro e w1 ⟨rfl,hB1⟩)
  | (go_at_call 204;refine (only_any _ _).mono ?_;rintro e w2 ⟨rfl,hw2⟩))
 go_ret
 subst hw2
 exact ⟨w1.heap.size,rfl,two_boxes hB1 true _⟩
set_option maxRecDepth 100000 in
set_option maxHeartbeats 1000000 in
theorem stopV_any (x:ByteArray) (b g n c:Nat) (a:Option Addr) (ws:List ByteArray) (w:World) (hb:w.cell? ⟨b,1,none⟩=some (.slice a n c)) (hn:n=ws.length) (hl:ws.length≤1000) (ha:0<ws.length→a=some ⟨g,0,none⟩) (hc:∀ j (h:j<ws.length),w.cell? ⟨g,j,none⟩=some (.string ws[j])) :
  Calls Tryz.prog 208 #[.string x,.pointer (some ⟨b,0,none⟩)] w fun e w'=>∃ b',
  e=.returned (.func (.func 306) #[] #[.pointer (some ⟨b',0,none⟩),.pointer (some ⟨b'+1,0,none⟩)])∧Boxed w' b' 4 (.bool (!Lib.containsS ws x))∧Boxed w' (b'+1) 9 (.string x)∧w.heap.size≤b'∧Below w.heap.size w w':=by
 have HC:Hid (Calls Tryz.prog 210 #[.slice a n c,.string x] w fun e w'=>e=.returned (.bool (Lib.containsS ws x))∧w'=w):=contains_any g n c a ws x w hn hl ha hc
 obtain ⟨q,hq⟩:∃ q,Lib.containsS ws x=q:=⟨_,rfl⟩
 rw [hq] at HC ⊢
 clear hq hc hn hl ha
 go_enter Tryz.func208,Tryz.ntmps208
 go_wp2_with (first
  | (go_at_call 210;refine HC.out.mono ?_;rintro e w1 ⟨rfl,rfl⟩)
  | (go_at_call 209;refine (onlyIf_any _ _ _).mono ?_;rintro e w2 ⟨rfl,hw2⟩))
 go_ret
 subst hw2
 exact ⟨_,rfl,two_boxes (Below.refl _ _) (!q) x⟩
set_option maxHeartbeats 1000000 in
theorem lenV_any (x:ByteArray) (b lo hi R:Nat) (w:World) (hR:Lib.runeCount x=R) (hx:x.size≤1099511627776) (h3:w.cell? ⟨b,3,none⟩=some (.int .i64 (lo:Int))) (h4:w.cell? ⟨b,4,none⟩=some (.int .i64 (hi:Int))) (hb:b<w.heap.size) :
  Calls Tryz.prog 213 #[.string x,.pointer (some ⟨b,0,none⟩)] w fun e w'=>∃ b',
  e=.returned (.func (.func 306) #[] #[.pointer (some ⟨b',0,none⟩),.pointer (some ⟨b'+1,0,none⟩)])∧Boxed w' b' 4 (.bool (decide (lo≤R∧R≤hi)))∧Boxed w' (b'+1) 9 (.string x)∧w.heap.size≤b'∧Below w.heap.size w w':=by
 have hrc:=runeCount_any x w (by omega)
 rw [hR] at hrc
 have HC:Hid (Calls Tryz.prog 214 #[.string x] w fun e w'=>e=.returned (.int .i64 (R:Int))∧Below w.heap.size w w'):=hrc
 clear hrc
 by_cases h1:lo≤R
 ·have h1I:(lo:Int)≤(R:Int):=by omega
  by_cases h2:R≤hi
  ·have h2I:(R:Int)≤(hi:Int):=by omega
   rw [decide_eq_true (⟨h1,h2⟩:lo≤R∧R≤hi)]
   go_enter Tryz.func213,Tryz.ntmps213
   go_wp2_with fail
   refine HC.out.mono ?_
   rintro e w1 ⟨rfl,hB1⟩
   have k3:=(hB1.cell (p:=⟨b,3,none⟩) hb).trans h3
   have k4:=(hB1.cell (p:=⟨b,4,none⟩) hb).trans h4
   go_wp2_with (go_at_call 209;refine (onlyIf_any _ _ _).mono ?_;rintro e w2 ⟨rfl,hw2⟩)
   go_ret
   subst hw2
   exact ⟨_,rfl,two_boxes hB1 true x⟩
  ·have h2I:¬ (R:Int)≤(hi:Int):=by omega
   rw [decide_eq_false (fun h:lo≤R∧R≤hi=>h2 h.2)]
   go_enter Tryz.func213,Tryz.ntmps213
   go_wp2_with fail
   refine HC.out.mono ?_
   rintro e w1 ⟨rfl,hB1⟩
   have k3:=(hB1.cell (p:=⟨b,3,none⟩) hb).trans h3
   have k4:=(hB1.cell (p:=⟨b,4,none⟩) hb).trans h4
   go_wp2_with (go_at_call 209;refine (onlyIf_any _ _ _).mono ?_;rintro e w2 ⟨rfl,hw2⟩)
   go_ret
   subst hw2
   exact ⟨_,rfl,two_boxes hB1 false x⟩
 ·have h1I:¬ (lo:Int)≤(R:Int):=by omega
  rw [decide_eq_false (fun h:lo≤R∧R≤hi=>h1 h.1)]
  go_enter Tryz.func213,Tryz.ntmps213
  go_wp2_with fail
  refine HC.out.mono ?_
  rintro e w1 ⟨rfl,hB1⟩
  have k3:=(hB1.cell (p:=⟨b,3,none⟩) hb).trans h3
  have k4:=(hB1.cell (p:=⟨b,4,none⟩) hb).trans h4
  go_wp2_with (go_at_call 209;refine (onlyIf_any _ _ _).mono ?_;rintro e w2 ⟨rfl,hw2⟩)
  go_ret
  subst hw2
  exact ⟨_,rfl,two_boxes hB1 false x⟩
set_option maxHeartbeats 1000000 in
theorem synV_any (x:ByteArray) (b:Nat) (a:Option Addr) (n c:Nat) (w:World) (hb:w.cell? ⟨b,2,none⟩=some (.slice a n c)) :
  Calls Tryz.prog 211 #[.string x,.pointer (some ⟨b,0,none⟩)] w fun e w' =>
  e=.returned (.func (.func 308) #[] #[.pointer (some ⟨w.heap.size,0,none⟩),.pointer (some ⟨w.heap.size+1,0,none⟩)])∧w'=(w.alloc (.cells #[.string x] 9)).alloc (.cells #[.slice a n c] 94):=by
 go_enter Tryz.func211,Tryz.ntmps211
 go_wp2_with (go_at_call 212;refine (withLike_any _ _ _ a n c rfl).mono ?_;rintro e w2 ⟨rfl,rfl⟩)
 go_ret
 exact ⟨rfl,rfl⟩
set_option maxHeartbeats 1000000 in
theorem gramV_any (x:ByteArray) (b lo hi:Nat) (w:World) (h3:w.cell? ⟨b,3,none⟩=some (.int .i64 (lo:Int))) (h4:w.cell? ⟨b,4,none⟩=some (.int .i64 (hi:Int))) :
  Calls Tryz.prog 215 #[.string x,.pointer (some ⟨b,0,none⟩)] w fun e w' =>
  e=.returned (.func (.func 309) #[] #[.pointer (some ⟨w.heap.size,0,none⟩),.pointer (some ⟨w.heap.size+1,0,none⟩),.pointer (some ⟨w.heap.size+1+1,0,none⟩)])∧w'=((w.alloc (.cells #[.string x] 9)).alloc (.cells #[.int .i64 (lo:Int)] 3)).alloc (.cells #[.int .i64 (hi:Int)] 3):=by
 go_enter Tryz.func215,Tryz.ntmps215
 go_wp2_with (go_at_call 216;refine (grams_any _ _ _ _).mono ?_;rintro e w2 ⟨rfl,rfl⟩)
 go_ret
 exact ⟨rfl,rfl⟩
set_option maxHeartbeats 1000000 in
theorem edgeV_any (x:ByteArray) (b lo hi:Nat) (w:World) (h3:w.cell? ⟨b,3,none⟩=some (.int .i64 (lo:Int))) (h4:w.cell? ⟨b,4,none⟩=some (.int .i64 (hi:Int))) :
  Calls Tryz.prog 217 #[.string x,.pointer (some ⟨b,0,none⟩)] w fun e w' =>
  e=.returned (.func (.func 310) #[] #[.pointer (some ⟨w.heap.size,0,none⟩),.pointer (some ⟨w.heap.size+1+1,0,none⟩),.pointer (some ⟨w.heap.size+1,0,none⟩)])∧w'=((w.alloc (.cells #[.string x] 9)).alloc (.cells #[.int .i64 (lo:Int)] 3)).alloc (.cells #[.int .i64 (hi:Int)] 3):=by
 go_enter Tryz.func217,Tryz.ntmps217
 go_wp2_with (go_at_call 218;refine (edges_any _ _ _ _).mono ?_;rintro e w2 ⟨rfl,rfl⟩)
 go_ret
 exact ⟨rfl,rfl⟩
end Go.Proofs.YtcmgclckknpecaaGreatDoor
namespace Go.Proofs.YtcmgclckknpecaaGreatDoor
open Go.RowKit
def Pl.chC (s:ByteArray):Nat→Bool→Nat→List Sp
 | 0,_,_=>[]
 | m+1,cut,a =>
  match Pl.nm s a (if cut=true then Pl.lates else Pl.starts) 0 0 with
  | (none,_)=>[]
  | (some i,b) =>
   Pl.spC s ((if cut=true then Pl.lates else Pl.starts)[i]?.getD ⟨#[]⟩) (if cut=true then Pl.kindL i else Pl.kindS i) b ::
    (if (Pl.body s (if cut=true then Pl.kindL i else Pl.kindS i) b).1=true then
     (if (cut = true ∨ 3 ≤ i) ∧ (Pl.body s (if cut = true then Pl.kindL i else Pl.kindS i) b).2 = s.size then []
      else if Pl.byteIn s 59 59 (Pl.body s (if cut = true then Pl.kindL i else Pl.kindS i) b).2 = true then Pl.chC s m (cut || decide (3 ≤ i)) ((Pl.body s (if cut = true then Pl.kindL i else Pl.kindS i) b).2 + 1) else [])
    else [])
def Pl.tlC (s:ByteArray) (m a:Nat):List Sp:=if a=s.size then [] else if Pl.byteIn s 59 59 a=true then Pl.chC s m true (a+1) else []
theorem chC_cut (s:ByteArray) (m a b i d:Nat) (h:Pl.nm s a Pl.starts 0 0=(some i,b)) (hb:Pl.body s (Pl.kindS i) b=(true,d)) (hc:3≤i) (hi:i<Pl.starts.length):Pl.chC s (m+1) false a=Pl.spC s (Pl.starts[i]) (Pl.kindS i) b :: Pl.tlC s m d:=by
 rw [Pl.chC]
 simp only [Bool.false_eq_true,if_false,h,hb,if_true,false_or,Bool.false_or,hc,true_and,decide_true,List.getElem?_eq_getElem hi,Option.getD_some]
 rfl
theorem chC_late (s:ByteArray) (m a b i d:Nat) (h:Pl.nm s a Pl.lates 0 0=(some i,b)) (hb:Pl.body s (Pl.kindL i) b=(true,d)) (hi:i<Pl.lates.length):Pl.chC s (m+1) true a=Pl.spC s (Pl.lates[i]) (Pl.kindL i) b :: Pl.tlC s m d:=by
 rw [Pl.chC]
 simp only [if_true,h,hb,true_or,Bool.true_or,true_and,List.getElem?_eq_getElem hi,Option.getD_some]
 rfl
theorem chC_early (s:ByteArray) (m a b i d:Nat) (h:Pl.nm s a Pl.starts 0 0=(some i,b)) (hb:Pl.body s (Pl.kindS i) b=(true,d)) (hc:¬ 3≤i) (hi:i<Pl.starts.length) (h59:Pl.byteIn s 59 59 d=true):Pl.chC s (m+1) false a=Pl.spC s (Pl.starts[i]) (Pl.kindS i) b :: Pl.chC s m false (d+1):=by
 rw [Pl.chC]
 simp only [Bool.false_eq_true,if_false,h,hb,if_true,false_or,Bool.false_or,hc,false_and,decide_false,List.getElem?_eq_getElem hi,Option.getD_some,h59]
def Pl.isE (s:ByteArray) (e:Sp):Prop:=∃ i b c,∃ hi:i<Pl.starts.length,i<3∧e=Pl.spC s (Pl.starts[i]) (Pl.kindS i) b∧Pl.body s (Pl.kindS i) b=(true,c)∧b≤s.size
def Pl.isC (s:ByteArray) (e:Sp):Prop:=∃ i b c,∃ hi:i<Pl.starts.length,3≤i∧e=Pl.spC s (Pl.starts[i]) (Pl.kindS i) b∧Pl.body s (Pl.kindS i) b=(true,c)∧b≤s.size
def Pl.isL (s:ByteArray) (e:Sp):Prop:=∃ i b c,∃ hi:i<Pl.lates.length,e=Pl.spC s (Pl.lates[i]) (Pl.kindL i) b∧Pl.body s (Pl.kindL i) b=(true,c)∧b≤s.size
structure Stb (base:Nat) (A B:World):Prop where
 size:A.heap.size≤B.heap.size
 block:∀ k c t fz,base≤k→A.heap[k]?=some (.cells c t fz)→(t=9∨t=357)→B.heap[k]?=A.heap[k]?
theorem Stb.trans {base:Nat} {A B C:World} (h:Stb base A B) (k:Stb base B C):Stb base A C :=
 ⟨Nat.le_trans h.size k.size,fun j c t fz hj hc ht=>(k.block j c t fz hj ((h.block j c t fz hj hc ht).trans hc) ht).trans (h.block j c t fz hj hc ht)⟩
theorem Stb.of_grown {base:Nat} {A B:World} {row:Option Nat} (hg:A.grownBy B row) (hr:∀ r,row=some r→r<base∨∃ c t fz,A.heap[r]?=some (.cells c t fz)∧t≠9∧t≠357):Stb base A B :=
 ⟨hg.size,fun k c t fz hk hc ht=>hg.block k (Array.getElem?_eq_some_iff.1 hc).1 (fun e=>by
  rcases hr k e.symm with h | ⟨c',t',fz',h1,h2,h3⟩
  ·omega
  ·rw [hc] at h1
   cases h1
   rcases ht with h | h
   ·exact h2 h
   ·exact h3 h)⟩
theorem Stb.refl (base:Nat) (A:World):Stb base A A:=⟨Nat.le_refl _,fun _ _ _ _ _ _ _=>rfl⟩
theorem Stb.alloc {base:Nat} {A B:World} (h:Stb base A B) (O:Obj):Stb base A (B.alloc O):=h.trans (Stb.of_grown (World.grownBy_alloc B O none) (fun r e=>by cases e))
theorem Stb.low {base:Nat} {A B:World} {rb:Nat} (hg:A.grownBy B (some rb)) (hb:rb<base):Stb base A B:=Stb.of_grown hg (fun r e=>by cases e;exact .inl hb)
theorem Stb.blk {base:Nat} {A B:World} {b:Nat} {t:TypeId} {cs:Array Value} (hg:A.grownBy B (some b)) (h:Blk b t cs A) (h9:t≠9) (h3:t≠357):Stb base A B:=Stb.of_grown hg (fun r e=>by cases e;exact .inr ⟨_,_,_,h,h9,h3⟩)
theorem Stb.row {base:Nat} {A B:World} {n0 size n:Nat} {e:TypeId} {v:Value} {xs:List Value} (hg:A.grownBy B v.ownBlock) (h:A.ownsRow n0 e size v n xs) (h9:e≠9) (h3:e≠357):Stb base A B:=Stb.of_grown hg (fun r er=>by
 rcases h.2 with ⟨rfl,_⟩ | ⟨g,cap,cur,rfl,_,hgb,_⟩
 ·simp [Value.ownBlock] at er
 ·obtain rfl:g=r:=by simpa [Value.ownBlock] using er
  exact .inr ⟨_,_,_,hgb,h9,h3⟩)
theorem ownsRow_stb {base n0:Nat} {A B:World} (hs:Stb base A B) {e:TypeId} {size n:Nat} {v:Value} {xs:List Value} (h:A.ownsRow n0 e size v n xs) (hb:base≤n0) (he:e=9∨e=357):B.ownsRow n0 e size v n xs:=by
 refine ⟨h.1,?_⟩
 rcases h.2 with h | ⟨g,cap,cur,rfl,hg,hh,r⟩
 ·exact .inl h
 ·exact .inr ⟨g,cap,cur,rfl,hg,(hs.block g _ _ _ (by omega) hh he).trans hh,r⟩
theorem StO.stb {base:Nat} {sp:Sp} {v1 v2:Value} {x z:Int} {A B:World} (h:StO base sp v1 v2 x z A) (hs:Stb base A B):StO base sp v1 v2 x z B :=
 ⟨ownsRow_stb hs h.r1 (Nat.le_refl _) (.inl rfl),ownsRow_stb hs h.r2 (Nat.le_refl _) (.inr rfl),h.hx,h.hz⟩
theorem StO.lower {base base':Nat} {sp:Sp} {v1 v2:Value} {x z:Int} {A:World} (h:StO base sp v1 v2 x z A) (hb:base'≤base):StO base' sp v1 v2 x z A :=
 ⟨ownsRow_low h.r1 hb,ownsRow_low h.r2 hb,h.hx,h.hz⟩
abbrev Sq:=Sp × Value × Value × Int × Int
def senc (q:Sq):List Value:=[.string q.1.nm,q.2.1,q.2.2.1,.int .i64 q.2.2.2.1,.int .i64 q.2.2.2.2]
structure Sts (base:Nat) (es:List Sp) (xs:List Value) (w:World):Prop where
 ex:∃ L:List Sq,es=L.map (·.1)∧xs=L.flatMap senc∧∀ q∈L,StO base q.1 q.2.1 q.2.2.1 q.2.2.2.1 q.2.2.2.2 w
theorem Sts.nil (base:Nat) (w:World):Sts base [] [] w:=⟨[],rfl,rfl,fun _ h=>by cases h⟩
theorem Sts.stb {base:Nat} {es:List Sp} {xs:List Value} {A B:World} (h:Sts base es xs A) (hs:Stb base A B):Sts base es xs B:=by
 obtain ⟨L,h1,h2,h3⟩:=h.ex
 exact ⟨L,h1,h2,fun q hq=>(h3 q hq).stb hs⟩
theorem Sts.snoc {base:Nat} {es:List Sp} {xs:List Value} {w:World} (h:Sts base es xs w) (sp:Sp) (v1 v2:Value) (x z:Int) (h2:StO base sp v1 v2 x z w):Sts base (es++[sp]) (xs++[.string sp.nm,v1,v2,.int .i64 x,.int .i64 z]) w:=by
 obtain ⟨L,e1,e2,h3⟩:=h.ex
 refine ⟨L++[(sp,v1,v2,x,z)],by rw [e1];simp,by rw [e2];simp [senc],fun q hq=>?_⟩
 rcases List.mem_append.1 hq with h | h
 ·exact h3 q h
 ·obtain rfl:=List.mem_singleton.1 h
  exact h2
theorem ownsRow_keep {A B:World} {base:Nat} {e:TypeId} {size:Nat} {v:Value} {n:Nat} {xs:List Value} {row:Option Nat} (h:A.ownsRow base e size v n xs) (hg:A.grownBy B row) (hr:∀ r,row=some r→r<base∨v.ownBlock≠some r):B.ownsRow base e size v n xs:=by
 refine ⟨h.1,?_⟩
 rcases h.2 with h | ⟨g,cap,cur,rfl,hg2,hh,r⟩
 ·exact .inl h
 ·refine .inr ⟨g,cap,cur,rfl,hg2,(hg.block g (Array.getElem?_eq_some_iff.1 hh).1 (fun e=>?_)).trans hh,r⟩
  rcases hr g e.symm with h | h
  ·omega
  ·exact h rfl
theorem grown_seven_self (X:World) (b:Nat) (v0 v1 v2 v3 v4 v5 v6:Value):X.grownBy (((((((X.setCell ⟨b,0,none⟩ v0).setCell ⟨b,1,none⟩ v1).setCell ⟨b,2,none⟩ v2).setCell ⟨b,3,none⟩ v3).setCell ⟨b,4,none⟩ v4).setCell ⟨b,5,none⟩ v5).setCell ⟨b,6,none⟩ v6) (some b) :=
 grown_trans (grown_trans (grown_trans (grown_trans (grown_trans (grown_trans (grown_set X b 0 v0) (grown_set _ b 1 v1)) (grown_set _ b 2 v2)) (grown_set _ b 3 v3)) (grown_set _ b 4 v4)) (grown_set _ b 5 v5)) (grown_set _ b 6 v6)
theorem tlC_end (s:ByteArray) (m:Nat):Pl.tlC s m s.size=[]:=by rw [Pl.tlC,if_pos rfl]
theorem tlC_more (s:ByteArray) (m a:Nat) (h:a≠s.size) (h59:Pl.byteIn s 59 59 a=true):Pl.tlC s m a=Pl.chC s m true (a+1):=by rw [Pl.tlC,if_neg h,if_pos h59]
structure PlanO (base:Nat) (s:ByteArray) (T:List Sp) (v1:Value) (n1:Nat) (t:ByteArray) (v2 v3:Value) (x z:Int) (v4:Value) (n4:Nat) (w:World):Prop where
 ex:∃ (es:List Sp) (cu:Sp) (ls:List Sp) (xs ys:List Value),T=es++cu :: ls∧n1=es.length∧n4=ls.length∧cu.nm=t∧(∀ e∈es,Pl.isE s e)∧Pl.isC s cu∧(∀ e∈ls,Pl.isL s e) ∧
  w.ownsRow base 96 5 v1 n1 xs∧Sts base es xs w∧StO base cu v2 v3 x z w∧w.ownsRow base 96 5 v4 n4 ys∧Sts base ls ys w
end Go.Proofs.YtcmgclckknpecaaGreatDoor
