import Derived.Test.YtcmgclckknpecaaGreatDoorKad
import Derived.Test.YtcmgclckknpecaaGreatDoorKah
import Derived.BigCall
import Derived.Deep.RegionHeld3
import Derived.Deep.AppendLies
import Derived.RangeFuncCalls
import Derived.OrdersIn
import Derived.Test.YtcmgclckknpecaaGreatDoorKae
import Derived.RegionIn
import Derived.Test.YtcmgclckknpecaaGreatDoorKag
namespace Go.Proofs.YtcmgclckknpecaaGreatDoor
open Go.RowKit Go.Shelf
def Pl.tbs (cs:List (Nat × Nat × Nat)):List UInt8:=cs.flatMap fun x=>Lib.encodeRune (x.1:Int)
theorem Pl.tbs_le:∀ cs:List (Nat × Nat × Nat),(Pl.tbs cs).length≤4*cs.length
 | []=>by simp [Pl.tbs]
 | x :: r=>by
  have:=Pl.tbs_le r
  have h4:=Lib.runeCells_le (x.1:Int)
  rw [Lib.runeCells_length] at h4
  simp only [Pl.tbs,List.flatMap_cons,List.length_append,List.length_cons] at this ⊢
  omega
theorem Pl.tbs_snoc (cs:List (Nat × Nat × Nat)) (x:Nat × Nat × Nat):Pl.tbs (cs++[x])=Pl.tbs cs++Lib.encodeRune (x.1:Int):=by simp [Pl.tbs]
set_option maxHeartbeats 4000000 in
set_option maxRecDepth 1000000 in
theorem termOf_any (g o cap:Nat) (cs:List (Nat × Nat × Nat)) (w:World) (hC:Cr g o cs w) (hg:g<w.heap.size) (hl:cs.length≤268435456) (hcd:∀ k,Pl.cdx cs k≤67108863) :
  Calls Tryz.prog 130 #[.slice (some ⟨g,o,none⟩) cs.length cap] w fun e w'=>e=.returned (.string ⟨(Pl.tbs cs).toArray⟩)∧Below w.heap.size w w':=by
 go_enter Tryz.func130,Tryz.ntmps130
 go_wp2
 go_loopw [8] (fun i wr=>∃ k:Nat,i=.int .i64 (k:Int)∧k≤cs.length∧Lib.IsBuilderF 166 5 w.heap.size w.heap.size (Lib.byteCells (Pl.tbs (cs.take k))) wr∧Below w.heap.size w wr) (fun i _=>cs.length - (intOf i).toNat)
 case atStart=>exact ⟨0,rfl,by omega,Lib.IsBuilderF.of (Lib.fresh_isBuilder 166 5 w),(Below.refl _ w).alloc (Nat.le_refl _) _⟩
 case round =>
  obtain ⟨k,rfl,hk,hI,hB⟩:=hrel
  by_cases hkl:k<cs.length
  ·have hkI:(k:Int)<(cs.length:Int):=by omega
   have hCr:=hC.below hB (fun _=>hg)
   obtain ⟨c0,c1,c2⟩:=hCr.c k hkl
   have hck:=hcd k
   rw [Pl.cdx_eq hkl] at hck
   have htk:Pl.tbs (cs.take (k+1))=Pl.tbs (cs.take k)++Lib.encodeRune ((cs[k]).1:Int):=by rw [List.take_succ_eq_append_getElem hkl,Pl.tbs_snoc]
   have hle:=Pl.tbs_le (cs.take k)
   have hle2:(cs.take k).length≤268435456:=by simp;omega
   obtain ⟨x,hx⟩:∃ x,cs[k]=x:=⟨_,rfl⟩
   rw [hx] at c0 c1 c2 hck htk
   obtain ⟨acc,hacc⟩:∃ acc,Pl.tbs (cs.take k)=acc:=⟨_,rfl⟩
   rw [hacc] at hI hle htk
   have HTK:Hid (Pl.tbs (cs.take (k+1))=acc++Lib.encodeRune (x.1:Int)):=htk
   have hsz:=hB.size
   clear htk hacc hx
   go_wp2_with (go_at_call 219;refine (writeRune_any w.heap.size w.heap.size _ (x.1:Int) (by omega) (by omega) _ (hI.alloc (.cells #[.int .i64 (x.1:Int),.int .i64 (x.2.1:Int),.int .i64 (x.2.2:Int)] 38)) (by rw [Lib.byteCells_length];omega) (by simp;omega)).mono ?_)
   rintro e W1 ⟨rfl,h1,b1,k1⟩
   go_wp2
   refine ⟨⟨k+1,by go_num,by omega,?_,(hB.alloc hsz _).trans b1⟩,by simp [intOf];omega⟩
   rw [HTK.out,Lib.byteCells_append,Lib.byteCells_encodeRune]
   exact Or.inr h1
  ·have hkI:¬ (k:Int)<(cs.length:Int):=by omega
   have htk:cs.take k=cs:=List.take_of_length_le (by omega)
   rw [htk] at hI
   go_wp2_with (go_at_call 59;refine (string_any w.heap.size w.heap.size _ _ hI hB.size).mono ?_;rintro e W1 ⟨rfl,h1,b1,k1⟩)
   go_ret
   exact ⟨rfl,hB.trans b1⟩
end Go.Proofs.YtcmgclckknpecaaGreatDoor
namespace Go.Proofs.YtcmgclckknpecaaGreatDoor
open Go.RowKit Go.Shelf
attribute [local go_sem] Oper.semAt_some
theorem info27':(Tryz.prog.info? 38).map (fun i=>(i.zero,i.size,i.bytes))=some (some (.agg #[.int .i64 0,.int .i64 0,.int .i64 0]),3,24):=by kernel_rfl
theorem seq_stops (n:Nat) (hn:1≤n) (Bn n0:Nat) (s:ByteArray) (hm:s.size≤120) (xs:List (Nat × Nat × Nat)) (HXS:Hid (Pl.cs (Pl.bt s) s.size s.size 0=xs)) (w:World) (hBn:Bn<n0) (hn0:n0≤w.heap.size)
  (hc:w.cell? ⟨Bn,0,none⟩=some (.string s)) :
  SeqStopsK Fence.wide n Tryz.prog 83 #[.pointer (some ⟨Bn,0,none⟩)] encs (Below n0) (fun ys=>ys=xs) (fun pre=>pre <+: xs) xs.length w:=fun l J Jx W hW hJ _ hY h0 =>
 seq_in n hn l Bn n0 s hm xs HXS J Jx W hBn hJ hY ((hW.cell (p:=⟨Bn,0,none⟩) (by show Bn<_;omega)).trans hc) (by have:=hW.size;omega) h0
theorem cells_own {X Y:World} {row:Option Nat} {Bx:Nat} {cs:Array Value} {t:TypeId} (h:X.heap[Bx]?=some (.cells cs t (0,0))) (hg:X.grownBy Y row) (hr:∀ r,row=some r→∃ o:Obj,X.heap[r]?=some o∧o.isCells=false) :
  Y.heap[Bx]?=some (.cells cs t (0,0)):=by
 refine (hg.block Bx (Array.getElem?_eq_some_iff.1 h).1 (fun e=>?_)).trans h
 obtain ⟨o,ho,hc⟩:=hr Bx e.symm
 rw [h] at ho;cases ho;cases hc
set_option maxRecDepth 100000 in
set_option maxHeartbeats 2000000 in
theorem appendseq_in (n:Nat) (hn:3≤n) (Bn:Nat) (s:ByteArray) (hm:s.size≤120) (xs:List (Nat × Nat × Nat)) (hlen:xs.length≤120) (HXS:Hid (Pl.cs (Pl.bt s) s.size s.size 0=xs)) (w:World) (hBn:Bn<w.heap.size)
  (hc:w.cell? ⟨Bn,0,none⟩=some (.string s)) :
  CallsIn Fence.wide n Tryz.prog 82 #[.slice none 0 0,.func (.func 83) #[] #[.pointer (some ⟨Bn,0,none⟩)]] w fun e W'=>∃ v,e=.returned v∧W'.ownsRow w.heap.size 38 3 v xs.length (xs.flatMap enc)∧Below w.heap.size w W':=by
 have h1:1≤n:=by omega
 obtain ⟨i0,hi,hz0,hz1,hz2⟩:=info_parts info27'
 refine callsIn_of_wp_marks Tryz.func82 rfl trivial ?_ rfl
 simp only [Tryz.ntmps82,List.size_toArray,List.length_cons,List.length_nil,Nat.reduceAdd,Nat.reduceSub,Array.replicate_succ,Array.replicate_zero,List.push_toArray,List.append_toArray,List.nil_append,List.cons_append]
 gi_wp2_with fail
 have bO:=Boxed.new w 34 (.slice none 0 0)
 have hB0:Below w.heap.size w (w.alloc (.cells #[.slice none 0 0] 34)):=(Below.refl _ w).alloc (Nat.le_refl _) _
 have hcW:(w.alloc (.cells #[.slice none 0 0] 34)).cell? ⟨Bn,0,none⟩=some (.string s):=(hB0.cell (p:=⟨Bn,0,none⟩) hBn).trans hc
 refine wpIn_rangeFunc_ownH rfl h1 (gf:=83) (lb:=#[.pointer (some ⟨Bn,0,none⟩)]) rfl trivial (enters_of Tryz.func83 (by kernel_rfl) rfl)
  (seq_stops (n - 1) (by omega) Bn w.heap.size s hm xs HXS _ hBn (by simp) hcW) belowK_t (belowK_b (by simp)) (Below.refl _ _) (fun _=>rfl)
  (fun (pre:List (Nat × Nat × Nat)) W=>(∃ v,Boxed W w.heap.size 34 v∧W.ownsRow w.heap.size 38 3 v pre.length (pre.flatMap enc)∧True)∧Below w.heap.size w W)
  (fun _ _ _=>False)
  (OwnFrom.and (Own.from (holdsRow_own w.heap.size w.heap.size 34 38 3 (fun pre:List (Nat × Nat × Nat)=>pre.length) (fun pre=>pre.flatMap enc) (fun _ _=>True)) _) (ownFrom_below (Nat.le_refl _) (by simp)))
  (fun _ _ _ _ _ hs _ _=>hs)
  ⟨⟨_,bO,World.ownsRow_nil _ _ _ _,trivial⟩,hB0⟩
  (fun x a' W=>∃ Bx,w.heap.size<Bx∧W.heap[Bx]?=some (.cells #[.int .i64 (x.1:Int),.int .i64 (x.2.1:Int),.int .i64 (x.2.2:Int)] 38 (0,0)) ∧
   a'={ tmps:=#[.slice none 0 0,.func (.func 83) #[] #[.pointer (some ⟨Bn,0,none⟩)],.pointer (some ⟨w.heap.size,0,none⟩),undef,.slice none 0 0,.pointer (some ⟨Bx,0,none⟩),.func (.func 83) #[] #[.pointer (some ⟨Bn,0,none⟩)],.agg #[.int .i64 (x.1:Int),.int .i64 (x.2.1:Int),.int .i64 (x.2.2:Int)],undef,undef,undef,undef,undef],defers:=[] })
  (fun x a' _ X Y row hs hg hr=>by obtain ⟨Bx,h1,h2,h3⟩:=hs;exact ⟨Bx,h1,cells_own h2 hg (fun r e=>(hr r e).2),h3⟩)
  ?assign ?body ?done ?stop
 case assign =>
  rintro l pre x W K ⟨⟨v,hv,hrow,_⟩,hB⟩ hK
  simp only [encs]
  gi_wp2
  exact hK _ _ ((KeepsOthers.alloc _ _).from _) ((Below.refl _ W).alloc hB.size _) ⟨⟨v,hv.alloc _,hrow.alloc _,trivial⟩,hB.alloc hB.size _⟩ ⟨W.heap.size,hv.lt,heap_alloc_new W _,rfl⟩
 case body =>
  rintro l pre x a' W hl ⟨r,hr⟩ ⟨⟨v,hv,hrow,_⟩,hB⟩ ⟨Bx,hBx,bX,rfl⟩ hlt
  have hcv:=hv.cell
  have c0:W.cell? ⟨Bx,0,none⟩=some (.int .i64 (x.1:Int)):=by simp [World.cell?,bX]
  have c1:W.cell? ⟨Bx,1,none⟩=some (.int .i64 (x.2.1:Int)):=by simp [World.cell?,bX]
  have c2:W.cell? ⟨Bx,2,none⟩=some (.int .i64 (x.2.2:Int)):=by simp [World.cell?,bX]
  have HNB:Hid ((W.alloc (.cells #[.int .i64 (x.1:Int),.int .i64 (x.2.1:Int),.int .i64 (x.2.2:Int)] 38)).heap[W.heap.size]?=some (.cells #[.int .i64 (x.1:Int),.int .i64 (x.2.1:Int),.int .i64 (x.2.2:Int)] 38 (0,0))):=heap_alloc_new W _
  clear bX
  gi_wp2_with (gi_at_builtin;go_must (refine wpListIn_append_own _ (by rfl) _ _ 34 (by rfl) w.heap.size 38 i0 (.agg #[.int .i64 0,.int .i64 0,.int .i64 0]) 3 24 Tryz.underlying34 hi hz0 hz1 hz2 rfl (by decide) _ pre.length (pre.flatMap enc) (by rfl) (hrow.alloc _) ⟨W.heap.size,0,none⟩ 1 1 (enc x) (by rfl) rfl (World.news_of_block HNB.out) (enc_one x) (by unfold maxLen;omega) (by omega) (by have:=hB.size;simp;omega) ?_);intro v' w1 hown' hgrow _;obtain ⟨g',cap',rfl⟩:=ownsRow_succ hown';obtain ⟨hv1,hv2,hr2,hk2,hb2⟩:=hv.appended (by decide) hrow hB.size (Nat.le_refl _) hown' hgrow;have hc1:=hv1.cell;have hf1:=hv1.frozen)
  refine ⟨hk2.from _,hb2,⟨_,hv2,?_,trivial⟩,hB.trans hb2⟩
  rw [enc_snoc,List.length_append]
  exact hr2
 case done =>
  rintro D ys W hD rfl ⟨⟨v,hv,hrow,_⟩,hB⟩ hK
  have hcv:=hv.cell
  gi_wp2
  refine ⟨by simp,.inl ⟨_,_,rfl,run_takeDeferred hK,?_⟩⟩
  exact ⟨_,results_tmp rfl _ _ _,v,rfl,ownsRow_putObj hrow _ hK rfl,hB.trans (belowK_b (w:=w) (Nat.le_refl _) W D _ _ (by simp at hD;omega) hK rfl rfl)⟩
 case stop =>
  rintro D c pre W _ _ h _
  exact h.elim
end Go.Proofs.YtcmgclckknpecaaGreatDoor
namespace Go.Proofs.YtcmgclckknpecaaGreatDoor
open Go.RowKit Go.Shelf
def noDefer (ops:Array Oper):Bool:=ops.toList.all fun o=>match o.op with | .defer _=>false | _=>true
theorem noDefer_spec {ops:Array Oper} (h:noDefer ops=true) (j:Nat) (o:Oper) (ho:ops[j]?=some o) (c:Call):o.op≠.defer c:=by
 intro hc
 have hm:o∈ops.toList:=by
  rw [← Array.getElem?_toList] at ho
  exact List.mem_of_getElem? ho
 have:=List.all_eq_true.1 h o hm
 rw [hc] at this
 simp at this
theorem opIn_of_op {P:Program} {l n:Nat} {ops:Array Oper} {Q:Exit→Act→World→Prop} (hnd:∀ (j:Nat) (o:Oper),ops[j]?=some o→(∀ c,o.op≠.defer c)) (hQ:¬ LetsOut Q) {i:Nat} {K:Act→World→Prop} {a:Act} {w:World}
  (h:wpOp P ops Q i K a w):wpOpIn (Fence.wide.inRound l) n P ops Q i K a w:=by
 unfold wpOp at h
 unfold wpOpIn
 cases ho:ops[i]? with
 | none=>simpa only [ho] using h
 | some o =>
  simp only [ho] at h ⊢
  split
  ·rename_i hw
   simp only [hw,if_true] at h
   rcases h with h | ⟨_,h⟩
   ·refine ⟨fun _ _=>trivial,?_⟩
    rw [show (Fence.wide.inRound l).round=some l from rfl,Oper.semAt_some l _ o (hnd i o ho)]
    unfold Oper.wp at h
    generalize (execOp a.eval o).run P w=r at *
    cases r with
    | ok x w' =>
     cases x
     case enter f args=>exact ⟨fun h'=>by simp [Fence.wide] at h',CallsIn.inRound l (callsIn_wide.2 h)⟩
     case row row args =>
      refine ⟨fun h'=>by simp [Fence.wide] at h',fun c cs _=>?_⟩
      obtain ⟨v,w'',r,s⟩:=h c cs
      exact ⟨v,w'',r,stepsIn_wide.2 s⟩
     all_goals first | exact h | exact h.elim
    | halt x w'=>cases x <;> exact h
   ·exact absurd h hQ
  ·rename_i hw
   simp only [hw] at h
   exact ⟨fun _ _=>trivial,h⟩
theorem anyIn_of_any {P:Program} {l n:Nat} {ops:Array Oper} {Q:Exit→Act→World→Prop} {md:Region.Mode} (hnd:∀ (j:Nat) (o:Oper),ops[j]?=some o→(∀ c,o.op≠.defer c)) (hQ:¬ LetsOut Q) :
  ∀ (fuel:Nat) (listed:Array Bool) (a:Act) (w:World),wpAny P md ops Q fuel listed a w→wpAnyIn (Fence.wide.inRound l) n P md ops Q fuel listed a w
 | 0,_,_,_,h=>h
 | fuel+1,_,_,_,h=>⟨h.1,fun i hi=>wpOpIn_mono (fun a' w' h'=>anyIn_of_any hnd hQ fuel _ a' w' h') (opIn_of_op hnd hQ (h.2 i hi))⟩
def waits (md:Region.Mode) (ops:Array Oper) (c i:Nat):Bool:=match ops[c]? with
 | some oc=>oc.after.toList.any fun e=>Region.binds md e && e.on == i
 | none=>false
theorem not_ready_of_waits {md:Region.Mode} {ops:Array Oper} {c i:Nat} {listed:Array Bool} (hw:waits md ops c i=true) (hi:i∈Region.ready md ops listed):c ∉ Region.ready md ops listed:=fun hc=>by
 obtain ⟨_,oc,hoc,hall⟩:=mem_ready.1 hc
 obtain ⟨hi0,_⟩:=mem_ready.1 hi
 simp only [waits,hoc,List.any_eq_true,Bool.and_eq_true,beq_iff_eq] at hw
 obtain ⟨e,he,hb,rfl⟩:=hw
 have h1:=hall e (by simpa using he) hb
 rcases Nat.lt_or_ge e.on listed.size with h' | h'
 ·simp [h'] at hi0 h1;rw [hi0] at h1;cases h1
 ·simp [Array.getElem?_eq_none h'] at h1
def wpAnyG (P:Program) (md:Region.Mode) (ops:Array Oper) (Q:Exit→Act→World→Prop) (S:World→Prop) (c:Nat):Nat→Array Bool→Act→World→Prop
 | 0,listed,a,w=>Region.ready md ops listed=[]∧Q .normal a w
 | fuel+1,listed,a,w =>
  (Region.ready md ops listed=[]→Q .normal a w) ∧
  ∀ i∈Region.ready md ops listed,wpOp P ops Q i (fun a' w'=>((listed.setIfInBounds i true).getD c true=false→S w')∧wpAnyG P md ops Q S c fuel (listed.setIfInBounds i true) a' w') a w
theorem wpAny_of_G {P:Program} {md:Region.Mode} {ops:Array Oper} {Q:Exit→Act→World→Prop} {S:World→Prop} {c:Nat}:∀ (fuel:Nat) (listed:Array Bool) (a:Act) (w:World),wpAnyG P md ops Q S c fuel listed a w→wpAny P md ops Q fuel listed a w
 | 0,_,_,_,h=>h
 | fuel+1,_,_,_,h=>⟨h.1,fun i hi=>wpOp_mono (fun a' w' h'=>wpAny_of_G fuel _ a' w' h'.2) (h.2 i hi)⟩
theorem wpAnyG_first {P:Program} {md:Region.Mode} {ops:Array Oper} {Q:Exit→Act→World→Prop} {S:World→Prop} {c i:Nat} {oi:Oper} {v:Value} (hi:ops[i]?=some oi) (hwt:waits md ops c i=true) (hci:c≠i)
  (hsel:∀ (j:Nat) (o:Oper) cs b,ops[j]?=some o→o.op≠.select cs b) (hQ:∀ ch a w,Q (.panic ch) (a.put oi.dst v) w→Q (.panic ch) a w) :
  ∀ (fuel:Nat) (listed:Array Bool) (a:Act) (w:World),
   (∀ j oj,ops[j]?=some oj→j≠i→listed.getD j true=false→(∀ e∈oj.after,Region.binds md e=true→e.on≠i)→oi.apart ops oj=true) →
   i∈Region.ready md ops listed→listed.getD c true=false→YieldsIf P ops S oi v a→S w →
   wpAnyG P md ops Q S c fuel (listed.setIfInBounds i true) (a.put oi.dst v) w→wpAnyG P md ops Q S c (fuel+1) listed a w:=by
 intro fuel
 induction fuel with
 | zero =>
  intro listed a w _ hr _ hy hS H
  refine ⟨fun h=>(by rw [h] at hr;cases hr),fun j hj=>?_⟩
  by_cases hji:j=i
  ·subst hji;exact hy.wpOp hi hS ⟨fun _=>hS,H⟩
  ·have:=ready_mono hj hji
   rw [H.1] at this
   cases this
 | succ fuel ih =>
  intro listed a w hfree hr hg hy hS H
  refine ⟨fun h=>(by rw [h] at hr;cases hr),fun j hj=>?_⟩
  by_cases hji:j=i
  ·subst hji;exact hy.wpOp hi hS ⟨fun _=>hS,H⟩
  ·have h1:=H.2 j (ready_mono hj hji)
   have hjc:j≠c:=fun e=>not_ready_of_waits hwt hr (e ▸ hj)
   obtain ⟨hjun,oj,hoj,hall⟩:=mem_ready.1 hj
   have hnot:∀ e∈oj.after,Region.binds md e=true→e.on≠i:=fun e he hb heq=>by
    have h1:=hall e he hb
    have h0:=(mem_ready.1 hr).1
    rw [heq] at h1
    rcases Nat.lt_or_ge i listed.size with h' | h'
    ·simp [h'] at h0 h1;rw [h0] at h1;cases h1
    ·simp [Array.getElem?_eq_none h'] at h1
   have h2:=wpOp_putIf hoj (hfree j oj hoj hji hjun hnot) (fun cs b=>hsel i oi cs b hi) (fun cs b=>hsel j oj cs b hoj) hQ hy h1
   have hg1:(listed.setIfInBounds j true).getD c true=false:=by rw [getD_set_ne true hjc];exact hg
   have hg2:((listed.setIfInBounds i true).setIfInBounds j true).getD c true=false:=by rw [getD_set_ne true hjc,getD_set_ne true (Ne.symm hci)];exact hg
   have hfree':∀ k ok,ops[k]?=some ok→k≠i→(listed.setIfInBounds j true).getD k true=false →
     (∀ e∈ok.after,Region.binds md e=true→e.on≠i)→oi.apart ops ok=true:=fun k ok hk hki hun hno=>by
    refine hfree k ok hk hki ?_ hno
    by_cases hjk:j=k
    ·subst hjk;exact hjun
    ·rw [getD_set_ne true hjk] at hun;exact hun
   refine wpOp_mono (fun a' w' h3=>⟨fun _=>h3.2.1 hg2,ih (listed.setIfInBounds j true) a' w' hfree' (ready_mono hr (Ne.symm hji)) hg1 h3.1 (h3.2.1 hg2) ?_⟩) h2
   rw [Array.setIfInBounds_comm _ _ hji]
   exact h3.2.2
theorem wpAnyG_take {P:Program} {md:Region.Mode} {ops:Array Oper} {Q:Exit→Act→World→Prop} {S:World→Prop} {c i:Nat} {oi:Oper} {v:Value} {fuel:Nat} {listed:Array Bool} {tmps:Array Value} {df:List Deferred} {w:World} (d:Nat) (hi:ops[i]?=some oi) (hd:oi.dst=some d)
  (hs:Region.noSelect ops=true) (hf:Region.free md ops listed i=true) (hr:(Region.ready md ops listed).contains i=true) (hwt:waits md ops c i=true) (hci:c≠i) (hg:listed.getD c true=false)
  (hQ:∀ ch a w,Q (.panic ch) (a.put oi.dst v) w→Q (.panic ch) a w) (hy:YieldsIf P ops S oi v ⟨tmps,df⟩) (hS:S w)
  (h:wpAnyG P md ops Q S c fuel (listed.setIfInBounds i true) ⟨tmps.setIfInBounds d v,df⟩ w):wpAnyG P md ops Q S c (fuel+1) listed ⟨tmps,df⟩ w:=by
 refine wpAnyG_first hi hwt hci (Region.noSelect_spec hs) hQ fuel listed ⟨tmps,df⟩ w (Region.free_spec hi hf) (by simpa using hr) hg hy hS ?_
 rw [hd]
 exact h
theorem wpAnyG_one {P:Program} {md:Region.Mode} {ops:Array Oper} {Q:Exit→Act→World→Prop} {S:World→Prop} {c i:Nat} {oi:Oper} {fuel:Nat} {listed:Array Bool} {a:Act} {w:World} (hi:ops[i]?=some oi)
  (hr:Region.ready md ops listed=[i]) (hw:Region.wanted oi (yielded ops a.tmps)=true)
  (h:oi.wp P a w (fun a' w'=>((listed.setIfInBounds i true).getD c true=false→S w')∧wpAnyG P md ops Q S c fuel (listed.setIfInBounds i true) a' w') Q):wpAnyG P md ops Q S c (fuel+1) listed a w:=by
 refine ⟨fun h0=>(by rw [hr] at h0;cases h0),fun j hj=>?_⟩
 rw [hr] at hj
 obtain rfl:j=i:=by simpa using hj
 unfold wpOp
 simp only [hi,hw,if_true]
 exact .inl h
theorem wpAnyG_done {P:Program} {md:Region.Mode} {ops:Array Oper} {Q:Exit→Act→World→Prop} {S:World→Prop} {c:Nat} {listed:Array Bool} {a:Act} {w:World} (hr:Region.ready md ops listed=[]) (h:Q .normal a w) :
  ∀ fuel,wpAnyG P md ops Q S c fuel listed a w
 | 0=>⟨hr,h⟩
 | _+1=>⟨fun _=>h,by rw [hr];simp⟩
theorem wpIn_region_G {P:Program} {l n:Nat} {ops:Array Oper} {Q:Exit→Act→World→Prop} {S:World→Prop} {c id:Nat} {a:Act} {w:World} (hm:P.follows .mixedOrders=true) (hnd:noDefer ops=true) (hQ:¬ LetsOut Q)
  (h:wpAnyG P .any ops Q S c ops.size (Array.replicate ops.size false) a w.drew):(Code.region id ops true).wpIn (Fence.wide.inRound l) n P Q a w :=
 wpIn_region_any hm (anyIn_of_any (noDefer_spec hnd) hQ _ _ _ _ (wpAny_of_G _ _ _ _ h))
theorem wp_region_G {P:Program} {ops:Array Oper} {Q:Exit→Act→World→Prop} {S:World→Prop} {c id:Nat} {a:Act} {w:World} (hm:P.follows .mixedOrders=true)
  (h:wpAnyG P .any ops Q S c ops.size (Array.replicate ops.size false) a w.drew):(Code.region id ops true).wp P Q a w :=
 wp_region_any hm (wpAny_of_G _ _ _ _ h)
end Go.Proofs.YtcmgclckknpecaaGreatDoor
namespace Go.Proofs.YtcmgclckknpecaaGreatDoor
open Go.RowKit Go.Shelf
set_option maxRecDepth 100000 in
theorem sidx2_any (s:ByteArray) (c:Int) (w:World):Calls Tryz.prog 180 #[.string s,.int .u8 c] w fun e w'=>IxO s c e∧w'=w:=by
 have h1:=ib_lt c.toNat.toUInt8 s.data.toList
 have h2:=Lib.indexByte_ge s.data.toList c.toNat.toUInt8
 have h3:s.data.toList.length=s.size:=by rw [Array.length_toList];rfl
 rw [h3] at h1
 have hc:∀ w,(callFunc 350 #[.string s,.int .u8 c]).run Tryz.prog w=.ok (.value (.int .i64 (Lib.indexByte s.data.toList c.toNat.toUInt8))) w:=by
  intro w
  rw [run_callFunc_extern Tryz.func350 (by kernel_rfl) (by kernel_rfl) (by kernel_rfl) (e:=Extern.BytealgIndexByte.indexByte) (by kernel_rfl),Lib.run_indexByteString]
  rfl
 obtain ⟨i,hi⟩:∃ i,Lib.indexByte s.data.toList c.toNat.toUInt8=i:=⟨_,rfl⟩
 rw [hi] at h1 h2 hc
 have Hi:Hid (Lib.indexByte s.data.toList c.toNat.toUInt8=i):=hi
 clear hi
 go_enter Tryz.func180,Tryz.ntmps180
 go_wp2
 all_goals (try go_ret)
 all_goals exact ⟨⟨i,rfl,h2,h1,Hi.out⟩,rfl⟩
theorem lines_any (s:ByteArray) (w:World):Calls Tryz.prog 121 #[.string s] w fun e w'=>e=.returned (.func (.func 179) #[] #[.pointer (some ⟨w.heap.size,0,none⟩)])∧w'=w.alloc (.cells #[.string s] 9):=by
 go_enter Tryz.func121,Tryz.ntmps121
 go_wp2
 go_ret
 exact ⟨rfl,rfl⟩
def boxSz (Bn:Nat) (w:World):Nat:=match w.cell? ⟨Bn,0,none⟩ with | some (.string t)=>t.size | _=>0
set_option maxRecDepth 100000 in
set_option maxHeartbeats 4000000 in
theorem lines_in (n:Nat) (hn:1≤n) (l Bn S:Nat) (hS:S≤1000000000) (J:Nat→World→Prop) (Jx:World→Prop) (W:World)
  (hJd:∀ k A,J k A→J k A.drew) (hJs:∀ k A c v,J k A→Boxed A Bn 9 c→J k (A.setCell ⟨Bn,0,none⟩ v))
  (hY:∀ k x r W1,J k W1→Boxed W1 Bn 9 (.string r)→k<S→x.size≤S→YieldAt Fence.wide (n - 1) Tryz.prog l #[.string x] W1 fun e W' =>
   (e=.returned (.bool true)∧J (k+1) W'∧Boxed W' Bn 9 (.string r))∨(e=.returned (.bool false)∧Jx W'))
  (t:ByteArray) (ht:t.size≤S) (hc:Boxed W Bn 9 (.string t)) (h0:J 0 W) :
  CallsIn Fence.wide n Tryz.prog 179 #[.func (.yield l) #[] #[],.pointer (some ⟨Bn,0,none⟩)] W fun e W'=>(∃ v,e=.returned v)∧((∃ k,k≤S∧J k W')∨Jx W'):=by
 refine callsIn_of_wp Tryz.func179 rfl trivial ?_ rfl
 simp only [Tryz.ntmps179,List.size_toArray,List.length_cons,List.length_nil,Nat.reduceAdd,Nat.reduceSub,Array.replicate_succ,Array.replicate_zero,List.push_toArray,List.append_toArray,List.nil_append,List.cons_append]
 gi_wp2
 gi_loopw [] (fun wr=>∃ (k:Nat) (t:ByteArray),Hid (Boxed wr Bn 9 (.string t))∧k+t.size≤S∧Hid (J k wr)) (fun wr=>boxSz Bn wr)
 case atStart=>exact ⟨0,t,hc,by omega,h0⟩
 case round =>
  obtain ⟨k,t,HBX,hk,HJ⟩:=hrel
  have hcr:=HBX.out.cell
  have hfr:=HBX.out.frozen
  by_cases h0:t.size=0
  ·have h0I:¬ (0:Int)<(t.size:Int):=by omega
   gi_wp2_with fail
   go_end0
   exact ⟨⟨_,rfl⟩,.inl ⟨k,by omega,HJ.out⟩⟩
  ·have h0I:(0:Int)<(t.size:Int):=by omega
   gi_wp2_with fail
   refine ⟨trivial,?_⟩
   refine (callsIn_wide.2 (sidx2_any t 10 _)).mono ?_
   rintro e w2 ⟨⟨i,rfl,hi1,hi2,-⟩,rfl⟩
   have HBS:Hid (∀ v,Boxed (w2.setCell ⟨Bn,0,none⟩ v) Bn 9 v):=fun v=>HBX.out.set v
   by_cases hi:i<0
   ·obtain ⟨fn,tmps,assign,body,hy,hR⟩:=hY k t ⟨#[]⟩ (w2.setCell ⟨Bn,0,none⟩ (.string ⟨#[]⟩)) (hJs k w2 _ _ HJ.out HBX.out) (HBX.out.set _) (by omega) (by omega)
    have HR:=hR
    gi_wp2_with fail
    refine hR.mono ?_
    rintro e W3 (⟨rfl,hJ3,hk3⟩ | ⟨rfl,hJx3⟩)
    ·have HJ3:Hid (J (k+1) W3):=hJ3
     have HK3:Hid (Boxed W3 Bn 9 (.string ⟨#[]⟩)):=hk3
     have hms:boxSz Bn W3<boxSz Bn w2:=by simp only [boxSz,hk3.cell,hcr];show 0<t.size;omega
     clear hJ3 hk3
     gi_wp2_with fail
     go_roundw
     case rel=>exact ⟨k+1,⟨#[]⟩,HK3,by show k+1+0≤S;omega,HJ3⟩
     case measure=>exact hms
    ·have HX3:Hid (Jx W3):=hJx3
     clear hJx3
     gi_wp2_with fail
     refine bodyPost_ret (results_none rfl _ _ _) rfl ?_
     exact ⟨⟨_,rfl⟩,.inr HX3.out⟩
   ·obtain ⟨j,rfl⟩:∃ j:Nat,i=(j:Int):=⟨i.toNat,by omega⟩
    have hw:wrap64 ((j:Int)+1)=(j:Int)+1:=by unfold wrap64;omega
    have hj1:(j:Int)+1≤(t.size:Int):=by omega
    have hj0:(0:Int)≤(j:Int)+1:=by omega
    have hx:(t.extract 0 (j+1)).size≤S:=Nat.le_trans (ext_le _ _ _) (by omega)
    have hr:(t.extract (j+1) t.size).size=t.size - (j+1):=by rw [Lib.size_rest]
    gi_wp2_with fail
    gi_region
    obtain ⟨fn,tmps,assign,body,hy,hR⟩:=hY k (t.extract 0 (j+1)) (t.extract (j+1) t.size) (w2.setCell ⟨Bn,0,none⟩ (.string (t.extract (j+1) t.size))).drew (hJd _ _ (hJs k w2 _ _ HJ.out HBX.out)) (HBX.out.set _) (by omega) hx
    gi_wp2_with fail
    refine hR.mono ?_
    rintro e W3 (⟨rfl,hJ3,hk3⟩ | ⟨rfl,hJx3⟩)
    ·have HJ3:Hid (J (k+1) W3):=hJ3
     have HK3:Hid (Boxed W3 Bn 9 (.string (t.extract (j+1) t.size))):=hk3
     have hms:boxSz Bn W3<boxSz Bn w2:=by simp only [boxSz,hk3.cell,hcr];omega
     clear hJ3 hk3
     gi_wp2_with fail
     go_roundw
     case rel=>exact ⟨k+1,t.extract (j+1) t.size,HK3,by omega,HJ3⟩
     case measure=>exact hms
    ·have HX3:Hid (Jx W3):=hJx3
     clear hJx3
     gi_wp2_with fail
     refine bodyPost_ret (results_none rfl _ _ _) rfl ?_
     exact ⟨⟨_,rfl⟩,.inr HX3.out⟩
end Go.Proofs.YtcmgclckknpecaaGreatDoor
namespace Go.Proofs.YtcmgclckknpecaaGreatDoor
open Go.RowKit Go.Shelf
def Bk (o:Obj):Prop:=(∃ r,o=.loop r)∨∃ d,o=.deferred d
def KeepBk (m:Nat) (W W':World):Prop:=∀ k o,m≤k→W.heap[k]?=some o→Bk o→W'.heap[k]?=some o
def linPost (m Bn:Nat) (I:Nat→World→Prop) (Ix:World→Prop) (k:Nat) (r:ByteArray) (W:World):Exit→Act→World→Prop
 | .normal,_,W'=>KeepBk m W W'∧I (k+1) W'∧Boxed W' Bn 9 (.string r)
 | .ret,_,W'=>KeepBk m W W'∧Ix W'
 | _,_,_=>False
theorem boxed_bk {W:World} {Bn l:Nat} {c:Value} {o o':Obj} (h:Boxed W Bn 9 c) (hl:W.heap[l]?=some o) (hb:Bk o):Boxed (W.putObj l o') Bn 9 c :=
 (World.putObj_heap_other (fun e=>by
  subst e
  rw [show W.heap[Bn]?=_ from h] at hl
  cases hl
  rcases hb with ⟨r,h⟩ | ⟨d,h⟩ <;> cases h)).trans h
set_option maxHeartbeats 1000000 in
theorem wpIn_range_lines {g:Operand} {ps:Array Tmp} {assign body:Code} {Q:Exit→Act→World→Prop} {a:Act} {w:World} {n:Nat} (h1:2≤n) (Bn S:Nat) (hS:S≤1000000000)
  (hg:a.eval g=.func (.func 179) #[] #[.pointer (some ⟨Bn,0,none⟩)]) (hps:ps.size=1) (t:ByteArray) (ht:t.size≤S) (hbx:Boxed w Bn 9 (.string t))
  (I:Nat→World→Prop) (Ix:World→Prop) (hId:∀ k A,I k A→I k A.drew) (hIs:∀ k A c v,I k A→Boxed A Bn 9 c→I k (A.setCell ⟨Bn,0,none⟩ v)) (hIa:∀ k A o,I k A→I k (A.alloc o))
  (hIp:∀ k A l o o',I k A→w.heap.size≤l→A.heap[l]?=some o→Bk o→I k (A.putObj l o')) (hIxp:∀ A l o o',Ix A→w.heap.size≤l→A.heap[l]?=some o→Bk o→Ix (A.putObj l o'))
  (h0:I 0 w) (a₁:ByteArray→Act)
  (hassign:∀ (l:Nat) (x:ByteArray) (W:World) (K:Act→World→Prop),K (a₁ x) W→assign.wpIn (Fence.wide.inRound l) (n - 1 - 1) Tryz.prog (Exit.then K (fun _ _ _=>False)) { tmps:=(ps.zip #[.string x]).foldl (fun t (p,v)=>t.setIfInBounds p v) a.tmps,defers:=[] } W)
  (hbody:∀ (l k:Nat) (x r:ByteArray) (W:World),I k W→Boxed W Bn 9 (.string r)→k<S→x.size≤S→body.wpIn (Fence.wide.inRound l) (n - 1 - 1) Tryz.prog (linPost w.heap.size Bn I Ix k r W) (a₁ x) W)
  (hdone:∀ (D k:Nat) (W:World),w.heap.size≤D→k≤S→I k W→W.heap[D]?=some (.deferred (some []))→Q .normal { a with defers:={ target:=.collected D,args:=#[] } :: a.defers } W)
  (hstop:∀ (D:Nat) (W:World),w.heap.size≤D→Ix W→W.heap[D]?=some (.deferred (some []))→Code.ret.wpIn Fence.wide n Tryz.prog Q { a with defers:={ target:=.collected D,args:=#[] } :: a.defers } W) :
  (Code.rangeFunc g ps assign body).wpIn Fence.wide n Tryz.prog Q a w:=by
 have hbl:Bn<w.heap.size:=hbx.lt
 refine wpIn_rangeFunc ?_
 intro fn hfn
 obtain ⟨rc,hrc⟩:∃ rc:LoopState→Option Code→Loop,rc=fun st pe=>{ state:=st,pending:=pe,fn,tmps:=a.tmps,params:=ps,assign,body,defers:=w.heap.size }:=⟨_,rfl⟩
 obtain ⟨V,hV⟩:∃ V,(w.alloc (.deferred (some []))).alloc (.loop (rc .ready none))=V:=⟨_,rfl⟩
 have vl:V.heap[w.heap.size+1]?=some (.loop (rc .ready none)):=by
  rw [← hV]
  have:=World.alloc_heap_new (w.alloc (.deferred (some []))) (.loop (rc .ready none))
  rwa [World.size_alloc] at this
 have vd:V.heap[w.heap.size]?=some (.deferred (some [])):=by
  rw [← hV]
  exact (Below.heap_alloc _ _ _ (by simp)).trans (World.alloc_heap_new w _)
 have vi:I 0 V:=by rw [← hV];exact hIa _ _ _ (hIa _ _ _ h0)
 have vx:Boxed V Bn 9 (.string t):=by rw [← hV];exact (hbx.alloc _).alloc _
 refine ⟨w.heap.size+1,[{ target:=.collected w.heap.size,args:=#[] }],V,{ target:=.fn (.func 179) #[.pointer (some ⟨Bn,0,none⟩)],args:=#[.func (.yield (w.heap.size+1)) #[] #[]] },V,179,
  #[.func (.yield (w.heap.size+1)) #[] #[]]++#[.pointer (some ⟨Bn,0,none⟩)],V,?_,?_,?_,?_,fun _=>by omega,?_⟩
 ·rw [← hV,hrc];exact run_enterLoop_outer _ _ _ _ _
 ·simp only [resolve,hg]
  simp [go_sem]
 ·intro f' _
  exact trivial
 ·simp [invoke,go_sem,show ∀ args w,(callFunc 179 args).run Tryz.prog w=.ok (.enter 179 args) w from enters_of Tryz.func179 (by kernel_rfl) rfl]
 ·refine (lines_in (n - 1) (by omega) (w.heap.size+1) Bn S hS
   (fun k W=>I k W∧W.heap[w.heap.size+1]?=some (.loop (rc .ready none))∧W.heap[w.heap.size]?=some (.deferred (some [])))
   (fun W=>Ix W∧W.heap[w.heap.size+1]?=some (.loop (rc .done (some .ret)))∧W.heap[w.heap.size]?=some (.deferred (some []))) V
   (fun k A hs=>⟨hId k A hs.1,hs.2.1,hs.2.2⟩)
   (fun k A c v hs hb=>⟨hIs k A c v hs.1 hb,(Below.heap_setCell _ _ _ _ (by show _≠Bn;omega)).trans hs.2.1,(Below.heap_setCell _ _ _ _ (by show _≠Bn;omega)).trans hs.2.2⟩)
   ?_ t ht vx ⟨vi,vl,vd⟩).mono ?_
  ·rintro k x r W ⟨hi,hl,hk⟩ hbW hkS hxS
   have hy:=run_yield (P:=Tryz.prog) (args:=#[.string x]) hl (by rw [hrc];exact hps.symm)
   rw [hrc] at hy
   refine ⟨fn,_,assign,body,hy,roundIn_of_wpIn hfn (hassign _ x W _ ?_)⟩
   clear hy
   have xlt:w.heap.size+1<W.heap.size:=(Array.getElem?_eq_some_iff.1 hl).1
   refine ⟨_,run_beginRound hl (by rw [hrc]),?_⟩
   obtain ⟨Y,hY⟩:∃ Y,W.putObj (w.heap.size+1) (.loop { rc .ready none with state:=.busy })=Y:=⟨_,rfl⟩
   have yl:Y.heap[w.heap.size+1]?=some (.loop { rc .ready none with state:=.busy }):=by rw [← hY];exact World.putObj_heap_same xlt
   have yd:Y.heap[w.heap.size]?=some (.deferred (some [])):=by rw [← hY];exact (World.putObj_heap_other (by omega)).trans hk
   have yi:I k Y:=by rw [← hY];exact hIp _ _ _ _ _ hi (by omega) hl (.inl ⟨_,rfl⟩)
   have yx:Boxed Y Bn 9 (.string r):=by rw [← hY];exact boxed_bk hbW hl (.inl ⟨_,rfl⟩)
   rw [hY]
   refine wpIn_mono (hbody _ k x r _ yi yx hkS hxS) ?_
   have fin:∀ (jump:Option Code) (Z:World),KeepBk w.heap.size Y Z →
     (Instr.endRound (w.heap.size+1) jump).run Tryz.prog Z=.ok (.bool jump.isNone) (Z.putObj (w.heap.size+1) (.loop (rc (if jump.isNone then .ready else .done) jump))) ∧
     Z.heap[w.heap.size+1]?=some (.loop { rc .ready none with state:=.busy }) ∧
     (Z.putObj (w.heap.size+1) (.loop (rc (if jump.isNone then .ready else .done) jump))).heap[w.heap.size+1]?=some (.loop (rc (if jump.isNone then .ready else .done) jump)) ∧
     (Z.putObj (w.heap.size+1) (.loop (rc (if jump.isNone then .ready else .done) jump))).heap[w.heap.size]?=some (.deferred (some [])):=fun jump Z hz=>by
    have zl:=hz _ _ (by omega) yl (.inl ⟨_,rfl⟩)
    have hr:=run_endRound (P:=Tryz.prog) jump zl
    rw [hrc] at hr ⊢
    exact ⟨hr,by rw [hrc] at zl;exact zl,World.putObj_heap_same (Array.getElem?_eq_some_iff.1 zl).1,(World.putObj_heap_other (by omega)).trans (hz _ _ (Nat.le_refl _) yd (.inr ⟨_,rfl⟩))⟩
   rintro e a3 Z hp
   cases e with
   | normal =>
    obtain ⟨k3,i3,b3⟩:=hp
    obtain ⟨hr,l3,l4,d4⟩:=fin none Z k3
    exact ⟨_,_,hr,.inl ⟨rfl,⟨hIp _ _ _ _ _ i3 (by omega) l3 (.inl ⟨_,rfl⟩),l4,d4⟩,boxed_bk b3 l3 (.inl ⟨_,rfl⟩)⟩⟩
   | ret =>
    obtain ⟨k3,i3⟩:=hp
    obtain ⟨hr,l3,l4,d4⟩:=fin (some .ret) Z k3
    exact ⟨_,_,hr,.inr ⟨rfl,hIxp _ _ _ _ i3 (by omega) l3 (.inl ⟨_,rfl⟩),l4,d4⟩⟩
   | exit id=>exact hp.elim
   | goto t=>exact hp.elim
   | panic ch=>exact hp.elim
   | outgrown=>exact hp.elim
  ·rintro e W2 ⟨⟨v,rfl⟩,(⟨k,hk,hi,hl,hd⟩ | ⟨hi,hl,hd⟩)⟩
   ·exact ⟨none,_,by have:=run_endLoop (P:=Tryz.prog) hl (by rw [hrc];simp);rw [hrc] at this;exact this,hdone _ k _ (Nat.le_refl _) hk (hIp _ _ _ _ _ hi (by omega) hl (.inl ⟨_,rfl⟩)) ((World.putObj_heap_other (by omega)).trans hd)⟩
   ·exact ⟨some .ret,_,by have:=run_endLoop (P:=Tryz.prog) hl (by rw [hrc];simp);rw [hrc] at this;exact this,hstop _ _ (Nat.le_refl _) (hIxp _ _ _ _ hi (by omega) hl (.inl ⟨_,rfl⟩)) ((World.putObj_heap_other (by omega)).trans hd)⟩
end Go.Proofs.YtcmgclckknpecaaGreatDoor
