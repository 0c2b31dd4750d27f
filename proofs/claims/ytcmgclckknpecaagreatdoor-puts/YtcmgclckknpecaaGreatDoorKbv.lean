import Derived.Test.YtcmgclckknpecaaGreatDoorRows
import Derived.WalkKit
import Derived.ProofKit
import Derived.LaidMore
import Derived.OpenShut
import Derived.ShutString
import Derived.Stop.Joined
import Derived.Test.YtcmgclckknpecaaGreatDoorKap
import Derived.MakeChecks
import Derived.Test.YtcmgclckknpecaaGreatDoorKbu
import Derived.Lay
namespace Go.Proofs.YtcmgclckknpecaaGreatDoor.puts
set_option maxHeartbeats 100000000 in
theorem closed:joinedFacts Tryz.prog 6 Tryz.f6 Rows.putsSpec Rows.putsRow=true:=by
 rw [joinedFacts]
 simp only [Bool.and_eq_true]
 and_intros
 all_goals as_aux_lemma=>kernel_rfl
end Go.Proofs.YtcmgclckknpecaaGreatDoor.puts
namespace Go.Proofs.YtcmgclckknpecaaGreatDoor
open Go.RowKit
theorem flat3:∀ (l:List (List Value)) (cs:List Value),cs.length=l.length*3→(∀ i,i<l.length→some ((cs.drop (i*3)).take 3)=l[i]?)→cs=l.flatten
 | [],cs,h,_=>by simpa using h
 | x :: r,cs,h,hi=>by
  have h0:=hi 0 (by simp)
  simp only [Nat.zero_mul,List.drop_zero,List.getElem?_cons_zero,Option.some.injEq] at h0
  have ih:=flat3 r (cs.drop 3) (by simp only [List.length_drop,List.length_cons] at h ⊢;omega) (fun i hl=>by
   have:=hi (i+1) (by simpa using hl)
   rw [List.getElem?_cons_succ,show (i+1)*3=3+i*3 by omega,← List.drop_drop] at this
   exact this)
  rw [List.flatten_cons,← h0,← ih,List.take_append_drop]
def e3 (x:List UInt8 × Int × List UInt8):List Value:=[.string ⟨x.1.toArray⟩,.int .i64 x.2.1,.string ⟨x.2.2.toArray⟩]
def d3 (x:List UInt8 × Int × List UInt8):DataW Unit:=.agg [.lit (.string x.1),.lit (.int .i64 x.2.1),.lit (.string x.2.2)]
theorem len3 {α:Type}:∀ l:List α,l.length=3→∃ a b c,l=[a,b,c]
 | [a,b,c],_=>⟨a,b,c,rfl⟩
theorem c433:Tryz.prog.cellsOf 433=3:=by kernel_rfl
theorem c434:Tryz.prog.cellsOf 434=27:=by kernel_rfl
theorem c9:Tryz.prog.cellsOf 9=1:=by kernel_rfl
theorem c3:Tryz.prog.cellsOf 3=1:=by kernel_rfl
theorem open433 {w:World} {fuel:Nat} {cs:List Value} {p:List MemPlace} (x:List UInt8 × Int × List UInt8) (h:DataW.trod (fun _=>()) Tryz.prog w 0 (fun _=>true) false fuel 433 cs=some (d3 x,p)):cs=e3 x:=by
 obtain ⟨ys,m,_,hx,hl,hn,hf⟩:=DataW.trod_struct Tryz.underlying433 h
 have l3:ys.length=3:=hn
 obtain ⟨y0,y1,y2,rfl⟩:=len3 ys l3
 have f0:=(show DataW.trod (fun _=>()) Tryz.prog w 0 (fun _=>true) false m 9 ((cs.drop 0).take (Tryz.prog.cellsOf 9))=some y0 from hf 0 _ rfl)
 have f1:=(show DataW.trod (fun _=>()) Tryz.prog w 0 (fun _=>true) false m 3 ((cs.drop 1).take (Tryz.prog.cellsOf 3))=some y1 from hf 1 _ rfl)
 have f2:=(show DataW.trod (fun _=>()) Tryz.prog w 0 (fun _=>true) false m 9 ((cs.drop 2).take (Tryz.prog.cellsOf 9))=some y2 from hf 2 _ rfl)
 rw [c9] at f0 f2
 rw [c3] at f1
 clear hf h
 obtain ⟨s0,a0,b0,_⟩:=DataW.trod_string Tryz.underlying9 f0
 obtain ⟨n1,a1,b1,_⟩:=DataW.trod_int Tryz.underlying3 f1
 obtain ⟨s2,a2,b2,_⟩:=DataW.trod_string Tryz.underlying9 f2
 subst b0 b1 b2
 simp only [d3,List.map_cons,List.map_nil,Prod.mk.injEq,DataW.agg.injEq,List.cons.injEq,DataW.lit.injEq,Lit.string.injEq,Lit.int.injEq,and_true,true_and] at hx
 obtain ⟨⟨e0,e1,e2⟩,_⟩:=hx
 rw [c433] at hl
 obtain ⟨k0,k1,k2,rfl⟩:=len3 cs hl
 obtain rfl:k0=.string s0:=(List.cons.inj a0).1
 obtain rfl:k1=.int .i64 n1:=(List.cons.inj a1).1
 obtain rfl:k2=.string s2:=(List.cons.inj a2).1
 rw [e3,e0,e1,e2]
def ends9D:List (List UInt8 × Int × List UInt8):=[([115,115,101,115],1,[115,115]),([105,101,115],2,[121]),([115,115],1,[115,115]),([117,115],1,[117,115]),([115],2,[]),([105,110,103],3,[]),([101,100,108,121],3,[]),([101,100],3,[]),([108,121],3,[])]
theorem ends_flat:((ends9D.map e3).flatten).toArray=endC:=by rfl
theorem open434 {w:World} {fuel:Nat} {cs:List Value} {p:List MemPlace} (h:DataW.trod (fun _=>()) Tryz.prog w 0 (fun _=>true) false fuel 434 cs=some (.agg (ends9D.map d3),p)):cs=(ends9D.map e3).flatten:=by
 obtain ⟨ys,m,_,hx,hl,hn,hf⟩:=DataW.trod_array Tryz.underlying434 h
 simp only [Prod.mk.injEq,DataW.agg.injEq] at hx
 rw [c434] at hl
 rw [c433] at hf
 refine flat3 _ cs (by rw [hl];rfl) (fun i hi=>?_)
 have hi9:i<9:=hi
 have hy:=hf i hi9
 have hiy:i<ys.length:=by omega
 rw [List.getElem?_eq_getElem hiy] at hy
 have hE:i<ends9D.length:=hi9
 have hd:(ys[i]).1=d3 (ends9D[i]):=by
  have e:=congrArg (fun l=>l[i]?) hx.1
  simp only [List.getElem?_map] at e
  rw [List.getElem?_eq_getElem hiy,List.getElem?_eq_getElem hE] at e
  exact (Option.some.inj e).symm
 have ho:=open433 (ends9D[i]) (p:=(ys[i]).2) (by rw [hy];exact congrArg some (Prod.ext hd rfl))
 rw [ho,List.getElem?_map,List.getElem?_eq_getElem hE]
 rfl
end Go.Proofs.YtcmgclckknpecaaGreatDoor
namespace Go.Proofs.YtcmgclckknpecaaGreatDoor
theorem laid_mem {P:Program} {w:World}:∀ {l:List (String × DataW Unit)} {ps:List MemPlace},DataW.LaidVars P w l ps→∀ {n:String} {d:DataW Unit},(n,d)∈l→∃ g t cs fuel p,P.globalNamed n=some g∧(P.globals[g]?).map (·.type)=some t∧w.var? P n=some cs∧DataW.trod (fun _=>()) P w 0 (fun _=>true) false fuel t cs.toList=some (d,p)
 | (m,e) :: r,ps,h,n,d,hm=>by
  obtain ⟨g,t,cs,fuel,p,q,h1,h2,h3,h4,h5,_⟩:=h
  rcases List.mem_cons.1 hm with hm | hm
  ·injection hm with e1 e2
   subst e1 e2
   exact ⟨g,t,cs,fuel,p,h1,h2,h3,h4⟩
  ·exact laid_mem h5 hm
theorem ends_of_met {w:World} {l:List (String × DataW Unit)} (h:laidMet Tryz.prog l w) (hm:("seek/seek.endings",DataW.agg (ends9D.map d3))∈l):Ends w:=by
 obtain ⟨ps,hv,_⟩:=h
 obtain ⟨g,t,cs,fuel,p,h1,h2,h3,h4⟩:=laid_mem hv hm
 have hg:g=0:=Option.some.inj (h1.symm.trans (by kernel_rfl))
 subst hg
 have ht:t=434:=Option.some.inj (h2.symm.trans (by kernel_rfl))
 subst ht
 have ho:=open434 h4
 unfold World.var? at h3
 rw [h1,Option.bind_some] at h3
 split at h3
 ·rename_i cs' t' fr hh
  cases h3
  refine ⟨t',fr,?_⟩
  rw [hh,← ends_flat,← ho]
 ·cases h3
end Go.Proofs.YtcmgclckknpecaaGreatDoor
namespace Go.Proofs.YtcmgclckknpecaaGreatDoor.puts
open Go.ChangeShapes Go.WideShapes Go.ChangeAt Go.RowKit
theorem own:ownKnob Tryz.prog.godebug=none:=by kernel_rfl
theorem laidOut:laidOutB Tryz.prog=true:=by kernel_rfl
abbrev laid13:List (String × DataW Unit):=Rows.putsRow.laid
theorem no_handles:(laid13.filter fun x=>x.2.handleName?.isSome)=[]:=by kernel_rfl
theorem laid_met (os:Os) (args:Array Value):laidMetH Tryz.prog laid13 ((World.laidAll Tryz.prog os laid13).forCall (fun _ _=>0) ⟨#[],args,[]⟩).memory:=by
 unfold laidMetH
 rw [no_handles]
 exact laidMet_laidAll args (by kernel_rfl) (by kernel_rfl)
theorem ends13 {w:World} (h:laidMetH Tryz.prog laid13 w):Ends w:=by
 unfold laidMetH at h
 rw [no_handles] at h
 refine ends_of_met h ?_
 simp only [laid13,Rows.putsRow,List.mem_cons]
 exact .inr (.inr (.inr (.inr (.inr (.inr (.inl rfl))))))
set_option maxRecDepth 100000 in
theorem lifted (os:Os) (started:os.Started) (H:Type) (enc:TypeId × Value→H) :
  ReturnsInHanded {} Tryz.checked os 6 .any (fun w args=>(Rows.putsSpec.pre enc Tryz.prog Tryz.f6 [] false w args∧laidMetH Tryz.prog laid13 w)∧sizedMet enc Tryz.prog Tryz.f6 (OpenSpec.ofChange Rows.putsSpec) false w args)
   (Rows.putsSpec.post enc Tryz.prog Tryz.f6 false true false false):=by
 refine returnsInHanded_of_change_and (C:=Tryz.checked) (X:=fun w _=>laidMetH Tryz.prog laid13 w) (fun _ _ _ hh h=>h.of_heap hh) own started (by kernel_rfl) Tryz.func6
  (ChangeSpec.witness_shaped (enc:=enc) (C:=Tryz.checked) (os:=os) (X:=fun w _=>laidMetH Tryz.prog laid13 w) false (World.laidAll Tryz.prog os laid13) #[.slice none 0 0,.slice none 0 0] 8 (World.laidAll_os _ _ _) (World.shaped_of_ZipB (by kernel_rfl) (by kernel_rfl)) (by kernel_rfl) (by kernel_rfl) (by kernel_rfl) (laid_met os _)) ?_
 intro W base args ds gs before hval0 hW _ hsz0 hX _
 have hval:∀ (j:Nat) t v,Tryz.f6.params[j]?=some t→args[j]?=some v→Value.okWide Tryz.prog W .any base t v:=hval0
 have hsz:(DataW.weightsEach Tryz.prog (Tryz.f6.params.toList++Rows.putsSpec.plain.varTypes Tryz.prog) (ds++gs)).all (·≤reachBytes)=true:=hsz0
 have hW':=hW
 obtain ⟨p,q,hA0,hV,rfl,hfz,hnd⟩:=hW
 have hA:DataW.TrodAll enc Tryz.prog W 0 (fun _=>true) true Tryz.f6.params.toList args.toList ds p:=hA0
 rw [Tryz.params6] at hA hval hsz
 obtain ⟨v0,v1,d0,d1,p0,p1,rfl,rfl,rfl,h0,h1⟩:=trodAll_two hA
 obtain ⟨rfl,rfl⟩:=trodVars_none hV
 obtain ⟨a0,l0,k0,rfl⟩:=okWide_slice Tryz.underlying43 (hval 0 43 v0 rfl rfl)
 obtain ⟨a1,l1,k1,rfl⟩:=okWide_slice Tryz.underlying44 (hval 1 44 v1 rfl rfl)
 clear hA0 hval0 hsz0
 simp only [List.append_nil] at hW'
 have hlt0:∀ x∈p0,x.block<W.heap.size:=fun x hx=>by
  have:=hW'.lt x (by simp [hx])
  simpa using this
 have hlt1:∀ x∈p1,x.block<W.heap.size:=fun x hx=>by
  have:=hW'.lt x (by simp [hx])
  simpa using this
 have hz:∀ n,(n∈d0.weights Tryz.prog 43∨n∈d1.weights Tryz.prog 44)→n≤reachBytes:=fun n hn=>by
  have:=List.all_eq_true.1 hsz n (by
   show n∈DataW.weightsEach Tryz.prog (43 :: 44 :: _) (d0 :: d1 :: _)
   simp only [DataW.weightsEach,List.mem_append]
   rcases hn with hn | hn
   ·exact .inl hn
   ·exact .inr (.inl hn))
  simpa using this
 obtain ⟨f0,t0⟩:=h0
 obtain ⟨f1,t1⟩:=h1
 obtain ⟨a,g,o,cap,fs,e0,hF,ha,hg,hl,hs⟩:=open_fields t0 fun n hn=>hz n (.inl hn)
 obtain ⟨sa,gs,os',sc,ops,e1,hS,hsa,hol⟩:=open_script t1 fun n hn=>hz n (.inr hn)
 have e0':Value.slice a0 l0 k0=.slice a fs.length cap:=by simpa [Value.cells] using e0
 have e1':Value.slice a1 l1 k1=.slice sa ops.length sc:=by simpa [Value.cells] using e1
 have hE:=ends13 hX
 have hw0:0<W.heap.size:=by
  obtain ⟨t,fr,h⟩:=hE
  exact (Array.getElem?_eq_some_iff.1 h).1
 rw [e0',e1']
 refine (puts_all a g o cap fs sa gs os' sc ops W hw0 hE hF ha hg hl hs hS hsa hol).mono fun e W' ⟨he,hB⟩=>?_
 subst he
 rw [e0',e1'] at hW'
 exact ⟨_,rfl,_,_,_,[],p0++p1,[],hW',trodAll_cons_mk (shut_bool Tryz.underlying4 _) trodAll_mk0,trodAll_mk2 (Below.trod laidOut (by kernel_rfl) (of_decide_eq_true (by kernel_rfl)) (e0' ▸ ⟨f0,t0⟩) hB hlt0) (Below.trod laidOut (by kernel_rfl) (of_decide_eq_true (by kernel_rfl)) (e1' ▸ ⟨f1,t1⟩) hB hlt1),rfl,hB.frame _,fun h=>by cases h⟩
theorem over:Rows.putsRow.holds Tryz.pinned (OpenSpec.ofChange Rows.putsSpec) :=
 OpenClaim.holds_of_wide 6 Tryz.f6 rfl rfl rfl rfl rfl rfl rfl ⟨rfl,rfl,rfl,rfl,rfl⟩ rfl rfl rfl rfl rfl (by kernel_rfl) Tryz.func6 closed
  (of_decide_eq_true (by kernel_rfl)) (by unfold Func.isWrapper;first | (rw [if_pos (by decide +kernel)];kernel_rfl) | (rw [if_neg (by decide +kernel)];exact ⟨rfl,rfl⟩))
  (fun os started H enc _=>lifted os started H enc)
end Go.Proofs.YtcmgclckknpecaaGreatDoor.puts
