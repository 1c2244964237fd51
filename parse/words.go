package parse

import "tripwire/api"

// What words and marks say; 0 is told where a token says nothing of the kind.

func typeOf(x api.Token) api.Type {
	switch x.Text {
	case "int":
		return api.TypeInt
	case "qty":
		return api.TypeQty
	case "price":
		return api.TypePrice
	case "time":
		return api.TypeTime
	case "bool":
		return api.TypeBool
	case "side":
		return api.TypeSide
	}
	return 0
}

// isNumber tells whether a type is one that a number can be turned into.
func isNumber(t api.Type) bool {
	return t >= api.TypeInt && t <= api.TypeTime
}

func fieldOf(x api.Token) api.Field {
	switch x.Text {
	case "bid":
		return api.FieldBid
	case "ask":
		return api.FieldAsk
	case "last":
		return api.FieldLast
	case "volume":
		return api.FieldVolume
	case "now":
		return api.FieldNow
	case "open":
		return api.FieldOpen
	}
	return 0
}

// mayLack tells whether a field is one that can be not there.
func mayLack(f api.Field) bool {
	return f >= api.FieldBid && f <= api.FieldLast
}

// valueOf is the type and the number of a literal.
func valueOf(x api.Token) (api.Type, int64) {
	switch x.Text {
	case "true":
		return api.TypeBool, 1
	case "false":
		return api.TypeBool, 0
	case "buy":
		return api.TypeSide, int64(api.Buy)
	case "sell":
		return api.TypeSide, int64(api.Sell)
	}
	// Of all tokens a number alone has a type.
	return x.Type, x.N
}

func doOf(x api.Token) api.DoKind {
	switch x.Text {
	case "submit":
		return api.DoSubmit
	case "amend":
		return api.DoAmend
	case "cancel":
		return api.DoCancel
	case "set":
		return api.DoSet
	case "goto":
		return api.DoGoto
	case "halt":
		return api.DoHalt
	}
	return 0
}

// orderOf is the kind of an order that has a price.
func orderOf(x api.Token) api.Kind {
	switch x.Text {
	case "limit":
		return api.Limit
	case "ioc":
		return api.Now
	case "fok":
		return api.All
	case "post":
		return api.Post
	}
	return 0
}

func callOf(x api.Token) api.Oper {
	switch x.Text {
	case "abs":
		return api.OperAbs
	case "min":
		return api.OperMin
	case "max":
		return api.OperMax
	}
	return 0
}

// The operators of the levels, each by the token at hand.

func (r *reader) orOper() api.Oper {
	if r.is("||") {
		return api.OperOr
	}
	return 0
}

func (r *reader) andOper() api.Oper {
	if r.is("&&") {
		return api.OperAnd
	}
	return 0
}

func (r *reader) compareOper() api.Oper {
	switch r.look().Text {
	case "==":
		return api.OperEq
	case "!=":
		return api.OperNe
	case "<":
		return api.OperLt
	case "<=":
		return api.OperLe
	case ">":
		return api.OperGt
	case ">=":
		return api.OperGe
	}
	return 0
}

func (r *reader) sumOper() api.Oper {
	switch r.look().Text {
	case "+":
		return api.OperAdd
	case "-":
		return api.OperSub
	}
	return 0
}

func (r *reader) productOper() api.Oper {
	switch r.look().Text {
	case "*":
		return api.OperMul
	case "/":
		return api.OperDiv
	case "%":
		return api.OperMod
	}
	return 0
}

func (r *reader) unaryOper() api.Oper {
	switch r.look().Text {
	case "-":
		return api.OperNeg
	case "!":
		return api.OperNot
	}
	return 0
}
