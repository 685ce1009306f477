import Derived.Test.YtgffljllfenhkaaGreatDoorGwbn
import Derived.Test.YtgffljllfenhkaaGreatDoorGwbu
import Derived.Test.YtgffljllfenhkaaGreatDoorGwbv
import Derived.Test.YtgffljllfenhkaaGreatDoorGwbw
import Derived.Test.YtgffljllfenhkaaGreatDoorGwbx
namespace Go.Proofs.YtgffljllfenhkaaGreatDoor
section
open Go.ChangeShapes Go.WideShapes Go.ChangeAt Go.WideMaps Go.WideElems Go.RowKit
open Go.ChangeMaps (open_string shut_string)
set_option maxHeartbeats 1600000 in
set_option maxRecDepth 100000 in
theorem lifted_again (os:Os) (started:os.Started) (H:Type) (enc:TypeId×Value->H) :
  ReturnsInHanded {} Tryz.checked os 6 .any (fun w args=>(Rows.againSpec.pre enc Tryz.prog Tryz.f6 [] false w args/\laidMetH Tryz.prog laidL w)/\sizedMet enc Tryz.prog Tryz.f6 (OpenSpec.ofChange Rows.againSpec) false w args)
   (Rows.againSpec.post enc Tryz.prog Tryz.f6 false true false false):=by
 refine returnsInHanded_of_change_and (C:=Tryz.checked) (X:=fun w _=>laidMetH Tryz.prog laidL w) (fun _ _ _ hh h=>h.of_heap hh) Tryz.own started (by kernel_rfl) Tryz.func6
  (ChangeSpec.witness_shaped (enc:=enc) (C:=Tryz.checked) (os:=os) (X:=fun w _=>laidMetH Tryz.prog laidL w) false (World.laidAll Tryz.prog os laidL) #[.string ⟨#[]⟩] 8 (World.laidAll_os _ _ _) (World.shaped_of_ZipB (by kernel_rfl) (by kernel_rfl)) (by kernel_rfl) (by kernel_rfl) (by kernel_rfl) (laid_met os _)) ?_
 intro W base args ds gs before hval0 hW _ _ hL _;have hval:∀ (j:Nat) t v,Tryz.f6.params[j]?=some t->args[j]?=some v->Value.okWide Tryz.prog W .any base t v:=hval0;have hW':=hW;obtain⟨p,q,hA0,hV,rfl,hfz,hnd⟩:=hW;have hA:DataW.TrodAll enc Tryz.prog W 0 (fun _=>true) true Tryz.f6.params.toList args.toList ds p:=hA0;rw[Tryz.params6] at hA hval;obtain⟨v0,d0,rfl,rfl,h0⟩:=trodAll_one hA;obtain⟨rfl,rfl⟩:=trodVars_none hV;obtain⟨s,rfl,rfl,rfl,ws⟩:=open_string Tryz.underlying9 (hval 0 9 v0 rfl rfl) h0;obtain⟨T,hT⟩:=of_laid hL;clear hA0 hval0;simp only[List.append_nil] at hW';refine (again_any hT s (by unfold maxLen at ws;omega)).mono fun e W' ⟨he,hw⟩=>?_
 subst he;exact⟨_,rfl,post_new hW' (fun _ _ _=>trodAll_mk1 (shut_bool Tryz.underlying4 _)) (fun sp=>trodAll_mk1 (shut_string Tryz.underlying9 ws)) (fun _=>rfl) hw (ok_one (by kernel_rfl) rfl (okWide_bool_mk Tryz.underlying4 _))⟩
theorem again_said:Rows.AgainSaid:=az_said az_named az_facts az_inst az_wrap (fun os started H enc=>lifted_again os started H enc)
end
end Go.Proofs.YtgffljllfenhkaaGreatDoor
