package print

import "tripwire/api"

// How the language writes what numbers stand for: a tree that may be has no number beside these.

var operTexts = [...]string{
	api.OperNeg: "-", api.OperNot: "!",
	api.OperAbs: "abs", api.OperMin: "min", api.OperMax: "max",
	api.OperAdd: "+", api.OperSub: "-",
	api.OperMul: "*", api.OperDiv: "/", api.OperMod: "%",
	api.OperEq: "==", api.OperNe: "!=", api.OperLt: "<", api.OperLe: "<=", api.OperGt: ">", api.OperGe: ">=",
	api.OperAnd: "&&", api.OperOr: "||",
}

var typeWords = [...]string{
	api.TypeInt: "int", api.TypeQty: "qty", api.TypePrice: "price", api.TypeTime: "time", api.TypeBool: "bool", api.TypeSide: "side",
}

// typeLetters stand behind numbers.
var typeLetters = [...]string{api.TypeInt: "", api.TypeQty: "q", api.TypePrice: "p", api.TypeTime: "t"}

var fieldWords = [...]string{
	api.FieldBid: "bid", api.FieldAsk: "ask", api.FieldLast: "last", api.FieldVolume: "volume", api.FieldNow: "now", api.FieldOpen: "open",
}

var boolWords = [...]string{"false", "true"}

var sideWords = [...]string{api.Buy: "buy", api.Sell: "sell"}

var orderWords = [...]string{api.Limit: "limit", api.Market: "market", api.Now: "ioc", api.All: "fok", api.Post: "post"}
